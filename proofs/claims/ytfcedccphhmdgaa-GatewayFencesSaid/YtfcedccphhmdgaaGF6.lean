/- What gatewayFences_proved stands on, part 6 of 8. -/
import Derived.Test.YtfcedccphhmdgaaGF5
namespace Go.Proofs.Ytfcedccphhmdgaa
open Go.RowKit Abs
set_option maxHeartbeats 4000000
set_option maxRecDepth 20000
noncomputable abbrev Pg:Program:=Try.prog
theorem oS{α:Type}{x:Option α}{k:α→R}{r:ARes×AHeap}(h:obind x k=some r):∃a,x=some a∧k a=some r:=obind_some h
theorem lS{α:Type}{v:α}{k:α→R}{r:ARes×AHeap}(h:lett v k=some r):∃x,x=v∧k x=some r:=lett_some h
noncomputable def gateway_Gateway_Right(call:CallF)(_:Nat)(t0:AV)(t1:Int)(h:AHeap):R:=lett (newH h 31 [.int .i64 0,.int .i64 0]) fun h_2=>outK (opBin Pg h_2 .eql 25 true (some t0) (some AV.nilp)) fun v10 h_6=>obind (avBool v10) fun t10=>ifB t10 (obind (stRow h_6 2 ([.int .i64 0,.int .i64 0]:List AV) (newP h)) fun h_10=>obind (ldRow h_10 2 (newP h)) fun w4=>some (.ret (.tup [.agg w4,.int .i64 0]),h_10)) (obind (nilC t0) fun t14=>obind (fldP 0 t14) fun t15=>obind (ldCell h_6 t15) fun v16=>callN (call 29 [v16,.int .i64 t1] h_6) fun r18 h_17=>obind (extT 0 r18) fun v19=>obind (avAgg v19) fun t19=>obind (extT 1 r18) fun v20=>obind (avInt .i64 v20) fun t20=>lett (newH h_17 31 [.int .i64 0,.int .i64 0]) fun h_23=>obind (stRow h_23 2 t19 (newP h_17)) fun h_25=>obind (nilC t0) fun t22=>obind (fldP 1 t22) fun t23=>obind (ldCell h_25 t23) fun v24=>outK (opLookup Pg h_25 71 false (some v24) (some (.int .i64 t1))) fun v26 h_32=>obind (avAgg v26) fun t26=>lett (newH h_32 31 [.int .i64 0,.int .i64 0]) fun h_35=>obind (stRow h_35 2 t26 (newP h_32)) fun h_37=>obind (ldRow h_37 2 (newP h_32)) fun t27=>obind (ldRow h_37 2 (newP h_17)) fun t28=>callN (call 19 [.agg t27,.agg t28] h_37) fun r29 h_42=>obind (avBool r29) fun t29=>lett (fun (h_46:AHeap)=>obind (ldRow h_46 2 (newP h_17)) fun t31=>lett (IntKind.i64.wrap (t20 - 1)) fun (t33:Int)=>obind (stRow h_46 2 t31 (newP h)) fun h_50=>obind (ldRow h_50 2 (newP h)) fun w4_53=>some (.ret (.tup [.agg w4_53,.int .i64 t33]),h_50)) fun k45=>ifB t29 (obind (ldRow h_42 2 (newP h_32)) fun t30=>obind (stRow h_42 2 t30 (newP h_17)) fun h_55=>k45 h_55) (k45 h_42))
theorem gateway_Gateway_Right_ok{call:CallF}(hc:SaysAll Pg call){n:Nat}{t0:AV}{t1:Int}{h:AHeap}{rR:ARes}{hR:AHeap}(z:gateway_Gateway_Right call n t0 t1 h=some (rR,hR)):Says Pg 13 [t0,.int .i64 t1] h rR hR:=by
 unfold gateway_Gateway_Right at z;refine sO Try.func13 fun w0 m0=>wW [(0,t0),(1,.int .i64 t1)] (oG fun n1=>W.r (oN 4 z fun h_2 z=>oA 5 (.int .i64 0) (oV [(0,t0),(1,.int .i64 t1),(4,newP h)] (n1 (oH fun n4 q4=>oG fun n5=>W.r (oA 9 t0 ?_))))))
 replace z:=outK_some z;obtain⟨v10,h_6,e7,z⟩:=z
 replace z:=oS z;obtain⟨t10,c8,z⟩:=z
 have c8:=avBool_some c8;subst c8;refine WL.b (some 10) (.bool t10) h_6 e7 (oV [(0,t0),(1,.int .i64 t1),(4,newP h),(10,.bool t10)] (n5 ?_))
 cases t10 with
 |true=>
  refine oT z fun z=>oG fun n9=>W.r (oA 11 (.agg ([.int .i64 0,.int .i64 0]:List AV)) (oW 31 (.agg ([.int .i64 0,.int .i64 0]:List AV)) z fun h_10 z=>oA 5 (.int .i64 0) (oV [(4,newP h),(5,.int .i64 0)] (n9 (oY (q4 ?_))))));obtain⟨w4,e12,z⟩:=oS z;exact lZ z [.cell 4 31,.tmp 5] [.agg w4,.int .i64 0] (rY e12 (rT res_nil))
 |false=>
  refine oU z fun z=>oZ (n4 (oG fun n13=>W.r (oA 13 t0 (oC0 14 z fun t14 z=>oF 15 73 0 z fun t15 z=>oL 16 67 z fun v16 z=>oA 17 (.int .i64 t1) (oC hc (some 18) z fun r18 h_17 z=>oA 12 r18 (oEa 19 z fun t19 z=>oEi 20 z fun t20 z=>oN 6 z fun h_23 z=>oW 31 (.agg t19) z fun h_25 z=>oA 7 (.int .i64 t20) (oV [(0,t0),(1,.int .i64 t1),(4,newP h),(6,newP h_17),(7,.int .i64 t20)] (n13 (W.s (fun K27 n27 _ _ _=>oG fun n28=>W.r (oA 21 t0 (oC0 22 z fun t22 z=>oF 23 73 1 z fun t23 z=>oL 24 71 z fun v24 z=>oA 25 (.int .i64 t1) ?_))))))))))))
  replace z:=outK_some z;obtain⟨v26,h_32,e33,z⟩:=z
  replace z:=oS z;obtain⟨t26,c34,z⟩:=z
  have c34:=avAgg_some c34;subst c34;refine WL.b (some 26) (.agg t26) h_32 e33 (oN 8 z fun h_35 z=>oW 31 (.agg t26) z fun h_37 z=>oV [(4,newP h),(6,newP h_17),(7,.int .i64 t20),(8,newP h_32)] (n28 (oG fun n39=>W.r (oR 27 31 z fun t27 z=>oR 28 31 z fun t28 z=>oCb hc 29 z fun t29 h_42 z=>oV [(4,newP h),(6,newP h_17),(7,.int .i64 t20),(8,newP h_32),(29,.bool t29)] (n39 ?_)))));obtain⟨k45,e45,z⟩:=lS z
  have J45:∀(h_46:AHeap),k45 h_46=some (rR,hR)→Go w0 m0 (Func.ntmps Try.f13) (K27 .normal) [(4,newP h),(6,newP h_17),(7,.int .i64 t20)] [] h_46:=by
   intro h_46 z;rw[e45] at z;refine n27 (oG fun n47=>W.r (oR 31 31 z fun t31 z=>oA 32 (.int .i64 t20) (oI 33 .i64 z fun t33 z=>oW 31 (.agg t31) z fun h_50 z=>oA 5 (.int .i64 t33) (oV [(4,newP h),(5,.int .i64 t33)] (n47 (oY ?_))))));obtain⟨w4_53,e52,z⟩:=oS z;exact lZ z [.cell 4 31,.tmp 5] [.agg w4_53,.int .i64 t33] (rY e52 (rT res_nil))
  cases t29 with
  |true=>
   exact oT z fun z=>W.r (oR 30 31 z fun t30 z=>oW 31 (.agg t30) z fun h_55 z=>oV [(4,newP h),(6,newP h_17),(7,.int .i64 t20)] (gW _ (J45 _ z)))
  |false=>
   exact oU z fun z=>oZ (gW _ (J45 _ z))
noncomputable def gateway_Gateway_Do(call:CallF)(_:Nat)(t0:AV)(t1:List AV)(t2:AV)(h:AHeap):R:=
 outK (opBox h 33 (some (.agg t1))) fun v4 h_2=>
 lett (newH h_2 33 [.int .u8 0,.int .i64 0,.int .i64 0,.int .i64 0,.int .i64 0,.int .i64 0,.int .i64 0,.int .i64 0,.bool false,.nsl,.int .i64 0,.int .i64 0,.str 0 0,.int .i64 0,.int .i64 0,.int .i64 0,.int .i64 0,.int .i64 0,.int .i64 0,.int .u8 0,.int .i64 0,.int .i64 0]) fun h_4=>
 outK (opBin Pg h_4 .eql 25 true (some t0) (some AV.nilp)) fun v10 h_9=>
 obind (avBool v10) fun t10=>
 ifB t10
 (
  obind (stRow h_9 22 ([.int .u8 0,.int .i64 0,.int .i64 0,.int .i64 0,.int .i64 0,.int .i64 0,.int .i64 0,.int .i64 0,.bool false,.nsl,.int .i64 0,.int .i64 0,.str 0 0,.int .i64 0,.int .i64 0,.int .i64 0,.int .i64 0,.int .i64 0,.int .i64 0,.int .u8 0,.int .i64 0,.int .i64 0]:List AV) (newP h_2)) fun h_13=>
  obind (ldRow h_13 22 (newP h_2)) fun w6=>
  some (.ret (.tup [.agg w6,.int .i64 1]),h_13))
 (
  obind (nilC t0) fun t14=>
  obind (fldP 2 t14) fun t15=>
  obind (ldCell h_9 t15) fun v16=>
  obind (avInt .i64 v16) fun t16=>
  lett ((t16:Int) != 0) fun (t17:Bool)=>
  ifB t17
  (
   obind (nilC t0) fun t20=>
   obind (fldP 2 t20) fun t21=>
   obind (ldCell h_9 t21) fun v22=>
   obind (avInt .i64 v22) fun t22=>
   obind (stRow h_9 22 ([.int .u8 0,.int .i64 0,.int .i64 0,.int .i64 0,.int .i64 0,.int .i64 0,.int .i64 0,.int .i64 0,.bool false,.nsl,.int .i64 0,.int .i64 0,.str 0 0,.int .i64 0,.int .i64 0,.int .i64 0,.int .i64 0,.int .i64 0,.int .i64 0,.int .u8 0,.int .i64 0,.int .i64 0]:List AV) (newP h_2)) fun h_27=>
   chk (reLoad Pg h_27 26 t21 (.int .i64 t22)&&true)<|
   obind (ldRow h_27 22 (newP h_2)) fun w6_31=>
   some (.ret (.tup [.agg w6_31,.int .i64 t22]),h_27))
  (
   obind (ldRow h_9 22 v4) fun t24=>
   callN (call 23 [.agg t24] h_9) fun r25 h_34=>
   obind (avBool r25) fun t25=>
   lett (!t25) fun (t26:Bool)=>
   ifB t26
   (
    obind (stRow h_34 22 ([.int .u8 0,.int .i64 0,.int .i64 0,.int .i64 0,.int .i64 0,.int .i64 0,.int .i64 0,.int .i64 0,.bool false,.nsl,.int .i64 0,.int .i64 0,.str 0 0,.int .i64 0,.int .i64 0,.int .i64 0,.int .i64 0,.int .i64 0,.int .i64 0,.int .u8 0,.int .i64 0,.int .i64 0]:List AV) (newP h_2)) fun h_39=>
    obind (ldRow h_39 22 (newP h_2)) fun w6_42=>
    some (.ret (.tup [.agg w6_42,.int .i64 2]),h_39))
   (
    obind (fldP 0 v4) fun t28=>
    obind (ldCell h_34 t28) fun v29=>
    obind (avInt .u8 v29) fun t29=>
    lett ((t29:Int) == 7) fun (t31:Bool)=>
    ifB t31
    (
     obind (ldRow h_34 22 v4) fun t33=>
     callN (call 24 [t0,.agg t33,t2,(AV.fn 25 [t0] [])] h_34) fun r37 h_53=>
     obind (extT 0 r37) fun v38=>
     obind (avAgg v38) fun t38=>
     obind (extT 1 r37) fun v39=>
     obind (avInt .i64 v39) fun t39=>
     obind (stRow h_53 22 t38 (newP h_2)) fun h_59=>
     obind (ldRow h_59 22 (newP h_2)) fun w6_62=>
     some (.ret (.tup [.agg w6_62,.int .i64 t39]),h_59))
    (
     lett ((t29:Int) == 9) fun (t41:Bool)=>
     ifB t41
     (
      obind (ldRow h_34 22 v4) fun t43=>
      callN (call 24 [t0,.agg t43,t2,(AV.fn 26 [t0] [])] h_34) fun r47 h_67=>
      obind (extT 0 r47) fun v48=>
      obind (avAgg v48) fun t48=>
      obind (extT 1 r47) fun v49=>
      obind (avInt .i64 v49) fun t49=>
      obind (stRow h_67 22 t48 (newP h_2)) fun h_73=>
      obind (ldRow h_73 22 (newP h_2)) fun w6_76=>
      some (.ret (.tup [.agg w6_76,.int .i64 t49]),h_73))
     (
      lett ((t29:Int) == 11) fun (t51:Bool)=>
      ifB t51
      (
       obind (ldRow h_34 22 v4) fun t53=>
       callN (call 24 [t0,.agg t53,t2,(AV.fn 27 [t0] [])] h_34) fun r57 h_81=>
       obind (extT 0 r57) fun v58=>
       obind (avAgg v58) fun t58=>
       obind (extT 1 r57) fun v59=>
       obind (avInt .i64 v59) fun t59=>
       obind (stRow h_81 22 t58 (newP h_2)) fun h_87=>
       obind (ldRow h_87 22 (newP h_2)) fun w6_90=>
       some (.ret (.tup [.agg w6_90,.int .i64 t59]),h_87))
      (
       obind (stRow h_34 22 ([.int .u8 0,.int .i64 0,.int .i64 0,.int .i64 0,.int .i64 0,.int .i64 0,.int .i64 0,.int .i64 0,.bool false,.nsl,.int .i64 0,.int .i64 0,.str 0 0,.int .i64 0,.int .i64 0,.int .i64 0,.int .i64 0,.int .i64 0,.int .i64 0,.int .u8 0,.int .i64 0,.int .i64 0]:List AV) (newP h_2)) fun h_92=>
       obind (ldRow h_92 22 (newP h_2)) fun w6_95=>
       some (.ret (.tup [.agg w6_95,.int .i64 2]),h_92)))))))
theorem gateway_Gateway_Do_ok{call:CallF}(hc:SaysAll Pg call){n:Nat}{t0:AV}{t1:List AV}{t2:AV}{h:AHeap}{rR:ARes}{hR:AHeap}(z:gateway_Gateway_Do call n t0 t1 t2 h=some (rR,hR)):Says Pg 8 [t0,.agg t1,t2] h rR hR:=by
 unfold gateway_Gateway_Do at z;refine sO Try.func8 fun w0 m0=>wW [(0,t0),(1,.agg t1),(2,t2)] (oG fun n1=>W.r (oK 4 z fun v4 h_2 z=>oN 6 z fun h_4 z=>oA 7 (.int .i64 0) (oV [(0,t0),(2,t2),(4,v4),(6,newP h_2)] (n1 (oH fun n6 q6=>W.blockK (by kernel_rfl) (fun K7 n7 s7 o7 q7 p7=>oG fun n8=>W.r (oA 9 t0 ?_)))))))
 replace z:=outK_some z;obtain⟨v10,h_9,e10,z⟩:=z
 replace z:=oS z;obtain⟨t10,c11,z⟩:=z
 have c11:=avBool_some c11;subst c11;refine WL.b (some 10) (.bool t10) h_9 e10 (oA 8 (.bool t10) (oV [(0,t0),(2,t2),(4,v4),(6,newP h_2),(8,.bool t10)] (n8 ?_)))
 cases t10 with
 |true=>
  refine oT z fun z=>oG fun n12=>W.r (oA 11 (.agg ([.int .u8 0,.int .i64 0,.int .i64 0,.int .i64 0,.int .i64 0,.int .i64 0,.int .i64 0,.int .i64 0,.bool false,.nsl,.int .i64 0,.int .i64 0,.str 0 0,.int .i64 0,.int .i64 0,.int .i64 0,.int .i64 0,.int .i64 0,.int .i64 0,.int .u8 0,.int .i64 0,.int .i64 0]:List AV)) (oW 33 (.agg ([.int .u8 0,.int .i64 0,.int .i64 0,.int .i64 0,.int .i64 0,.int .i64 0,.int .i64 0,.int .i64 0,.bool false,.nsl,.int .i64 0,.int .i64 0,.str 0 0,.int .i64 0,.int .i64 0,.int .i64 0,.int .i64 0,.int .i64 0,.int .i64 0,.int .u8 0,.int .i64 0,.int .i64 0]:List AV)) z fun h_13 z=>oA 7 (.int .i64 1) (oV [(6,newP h_2),(7,.int .i64 1)] (n12 (oY (q7 (q6 ?_)))))));obtain⟨w6,e15,z⟩:=oS z;exact lZ z [.cell 6 33,.tmp 7] [.agg w6,.int .i64 1] (rY e15 (rT res_nil))
 |false=>
  refine oU z fun z=>oG fun n16=>W.r (oA 13 t0 (oC0 14 z fun t14 z=>oF 15 73 2 z fun t15 z=>oLi 16 26 z fun t16 z=>oB 17 z fun t17 z=>oA 12 (.bool t17) (oV [(0,t0),(2,t2),(4,v4),(6,newP h_2),(12,.bool t17)] (n16 ?_))))
  cases t17 with
  |true=>
   refine oT z fun z=>oG fun n22=>y15 (by kernel_rfl) (hc.ok w0) (plan:=[0,1,2,3,4,5,6]) (by kernel_rfl) (by kernel_rfl) (by kernel_rfl) (WD.a 0 (some 18) (.agg ([.int .u8 0,.int .i64 0,.int .i64 0,.int .i64 0,.int .i64 0,.int .i64 0,.int .i64 0,.int .i64 0,.bool false,.nsl,.int .i64 0,.int .i64 0,.str 0 0,.int .i64 0,.int .i64 0,.int .i64 0,.int .i64 0,.int .i64 0,.int .i64 0,.int .u8 0,.int .i64 0,.int .i64 0]:List AV)) h_9 (WD.a 0 (some 19) t0 h_9 ?_));obtain⟨t20,e23,z⟩:=oS z;refine WD.b 0 (some 20) t20 h_9 (nil_chk (h:=h_9) e23) ?_;obtain⟨t21,e24,z⟩:=oS z;refine WD.b 0 (some 21) t21 h_9 (field_ptr (P:=Pg) (h:=h_9) (s:=73) (f:=2) (by kernel_rfl) e24) ?_
   replace z:=oS z;obtain⟨v22,e25,z⟩:=z
   replace z:=oS z;obtain⟨t22,c26,z⟩:=z
   have c26:=avInt_some c26;subst c26;refine WD.b 1 (some 22) (.int .i64 t22) h_9 (load_cell (P:=Pg) (h:=h_9) (t:=26) (by kernel_rfl) e25) ?_;obtain⟨h_27,e28,z⟩:=oS z;obtain⟨k29,z⟩:=chk_some z;refine WD.eff (h':=h_27) (by kernel_rfl) (by kernel_rfl) (Eq.trans (by kernel_rfl) (store_row (P:=Pg) (h:=h_9) (t:=33) (v:=(.agg ([.int .u8 0,.int .i64 0,.int .i64 0,.int .i64 0,.int .i64 0,.int .i64 0,.int .i64 0,.int .i64 0,.bool false,.nsl,.int .i64 0,.int .i64 0,.str 0 0,.int .i64 0,.int .i64 0,.int .i64 0,.int .i64 0,.int .i64 0,.int .i64 0,.int .u8 0,.int .i64 0,.int .i64 0]:List AV))) (by kernel_rfl) (by kernel_rfl) e28)) (k:=2) (by kernel_rfl) (fun _=>(Eq.trans (by kernel_rfl) k29)) (by decide) (WD.a 0 (some 7) (.int .i64 t22) h_27 (WD.nil (gW [(6,newP h_2),(7,.int .i64 t22)] (n22 (oY (q7 (q6 ?_)))))));obtain⟨w6_31,e30,z⟩:=oS z;exact lZ z [.cell 6 33,.tmp 7] [.agg w6_31,.int .i64 t22] (rY e30 (rT res_nil))
  |false=>
   refine oU z fun z=>oG fun n32=>W.r (oR 24 33 z fun t24 z=>oCb hc 25 z fun t25 h_34 z=>oB 26 z fun t26 z=>oA 23 (.bool t26) (oV [(0,t0),(2,t2),(4,v4),(6,newP h_2),(23,.bool t26)] (n32 ?_)))
   cases t26 with
   |true=>
    refine oT z fun z=>oG fun n38=>W.r (oA 27 (.agg ([.int .u8 0,.int .i64 0,.int .i64 0,.int .i64 0,.int .i64 0,.int .i64 0,.int .i64 0,.int .i64 0,.bool false,.nsl,.int .i64 0,.int .i64 0,.str 0 0,.int .i64 0,.int .i64 0,.int .i64 0,.int .i64 0,.int .i64 0,.int .i64 0,.int .u8 0,.int .i64 0,.int .i64 0]:List AV)) (oW 33 (.agg ([.int .u8 0,.int .i64 0,.int .i64 0,.int .i64 0,.int .i64 0,.int .i64 0,.int .i64 0,.int .i64 0,.bool false,.nsl,.int .i64 0,.int .i64 0,.str 0 0,.int .i64 0,.int .i64 0,.int .i64 0,.int .i64 0,.int .i64 0,.int .i64 0,.int .u8 0,.int .i64 0,.int .i64 0]:List AV)) z fun h_39 z=>oA 7 (.int .i64 2) (oV [(6,newP h_2),(7,.int .i64 2)] (n38 (oY (q7 (q6 ?_)))))));obtain⟨w6_42,e41,z⟩:=oS z;exact lZ z [.cell 6 33,.tmp 7] [.agg w6_42,.int .i64 2] (rY e41 (rT res_nil))
   |false=>
    refine oU z fun z=>oZ (n7 (n6 (oH fun n43 q43=>oG fun n44=>W.r (oF 28 33 0 z fun t28 z=>oLi 29 5 z fun t29 z=>oV [(0,t0),(2,t2),(4,v4),(6,newP h_2),(29,.int .u8 t29)] (n44 (W.blockK (by kernel_rfl) (fun K48 n48 s48 o48 q48 p48=>oG fun n49=>W.r (oB 31 z fun t31 z=>oA 30 (.bool t31) (oV [(0,t0),(2,t2),(4,v4),(6,newP h_2),(29,.int .u8 t29),(30,.bool t31)] (n49 ?_))))))))))
    cases t31 with
    |true=>
     refine oT z fun z=>oG fun n51=>W.r (oA 32 t0 (oR 33 33 z fun t33 z=>oA 34 t2 (oA 35 t0 (oA 36 (AV.fn 25 [t0] []) (oC hc (some 37) z fun r37 h_53 z=>oEa 38 z fun t38 z=>oEi 39 z fun t39 z=>oW 33 (.agg t38) z fun h_59 z=>oA 7 (.int .i64 t39) (oV [(6,newP h_2),(7,.int .i64 t39)] (n51 (oY (q48 (q43 ?_))))))))));obtain⟨w6_62,e61,z⟩:=oS z;exact lZ z [.cell 6 33,.tmp 7] [.agg w6_62,.int .i64 t39] (rY e61 (rT res_nil))
    |false=>
     refine oU z fun z=>oG fun n63=>W.r (oB 41 z fun t41 z=>oA 40 (.bool t41) (oV [(0,t0),(2,t2),(4,v4),(6,newP h_2),(29,.int .u8 t29),(40,.bool t41)] (n63 ?_)))
     cases t41 with
     |true=>
      refine oT z fun z=>oG fun n65=>W.r (oA 42 t0 (oR 43 33 z fun t43 z=>oA 44 t2 (oA 45 t0 (oA 46 (AV.fn 26 [t0] []) (oC hc (some 47) z fun r47 h_67 z=>oEa 48 z fun t48 z=>oEi 49 z fun t49 z=>oW 33 (.agg t48) z fun h_73 z=>oA 7 (.int .i64 t49) (oV [(6,newP h_2),(7,.int .i64 t49)] (n65 (oY (q48 (q43 ?_))))))))));obtain⟨w6_76,e75,z⟩:=oS z;exact lZ z [.cell 6 33,.tmp 7] [.agg w6_76,.int .i64 t49] (rY e75 (rT res_nil))
     |false=>
      refine oU z fun z=>oG fun n77=>W.r (oB 51 z fun t51 z=>oA 50 (.bool t51) (oV [(0,t0),(2,t2),(4,v4),(6,newP h_2),(50,.bool t51)] (n77 ?_)))
      cases t51 with
      |true=>
       refine oT z fun z=>oG fun n79=>W.r (oA 52 t0 (oR 53 33 z fun t53 z=>oA 54 t2 (oA 55 t0 (oA 56 (AV.fn 27 [t0] []) (oC hc (some 57) z fun r57 h_81 z=>oEa 58 z fun t58 z=>oEi 59 z fun t59 z=>oW 33 (.agg t58) z fun h_87 z=>oA 7 (.int .i64 t59) (oV [(6,newP h_2),(7,.int .i64 t59)] (n79 (oY (q48 (q43 ?_))))))))));obtain⟨w6_90,e89,z⟩:=oS z;exact lZ z [.cell 6 33,.tmp 7] [.agg w6_90,.int .i64 t59] (rY e89 (rT res_nil))
      |false=>
       refine oU z fun z=>oZ (n48 (n43 (oG fun n91=>W.r (oA 60 (.agg ([.int .u8 0,.int .i64 0,.int .i64 0,.int .i64 0,.int .i64 0,.int .i64 0,.int .i64 0,.int .i64 0,.bool false,.nsl,.int .i64 0,.int .i64 0,.str 0 0,.int .i64 0,.int .i64 0,.int .i64 0,.int .i64 0,.int .i64 0,.int .i64 0,.int .u8 0,.int .i64 0,.int .i64 0]:List AV)) (oW 33 (.agg ([.int .u8 0,.int .i64 0,.int .i64 0,.int .i64 0,.int .i64 0,.int .i64 0,.int .i64 0,.int .i64 0,.bool false,.nsl,.int .i64 0,.int .i64 0,.str 0 0,.int .i64 0,.int .i64 0,.int .i64 0,.int .i64 0,.int .i64 0,.int .i64 0,.int .u8 0,.int .i64 0,.int .i64 0]:List AV)) z fun h_92 z=>oA 7 (.int .i64 2) (oV [(6,newP h_2),(7,.int .i64 2)] (n91 (oY ?_))))))));obtain⟨w6_95,e94,z⟩:=oS z;exact lZ z [.cell 6 33,.tmp 7] [.agg w6_95,.int .i64 2] (rY e94 (rT res_nil))
noncomputable def gateway_isRight(_:CallF)(_:Nat)(t0:List AV)(h:AHeap):R:=outK (opBox h 33 (some (.agg t0))) fun v1 h_2=>obind (fldP 1 v1) fun t3=>obind (ldCell h_2 t3) fun v4=>obind (avInt .i64 v4) fun t4=>lett (decide (t4≥0)) fun (t5:Bool)=>lett (fun (t10:Bool) (h_9:AHeap)=>lett (fun (t15:Bool) (h_12:AHeap)=>lett (fun (t20:Bool) (h_15:AHeap)=>lett (fun (t26:Bool) (h_18:AHeap)=>lett (fun (t32:Bool) (h_21:AHeap)=>lett (fun (t38:Bool) (h_24:AHeap)=>lett (fun (t44:Bool) (h_27:AHeap)=>some (.ret (.bool t44),h_27)) fun j44=>ifB t38 (obind (fldP 14 v1) fun t40=>obind (fldP 1 t40) fun t41=>obind (ldCell h_24 t41) fun v42=>obind (avInt .i64 v42) fun t42=>lett (decide (t42≤1048576)) fun (t43:Bool)=>j44 t43 h_24) (j44 false h_24)) fun j38=>ifB t32 (obind (fldP 14 v1) fun t34=>obind (fldP 1 t34) fun t35=>obind (ldCell h_21 t35) fun v36=>obind (avInt .i64 v36) fun t36=>lett (decide (t36≥1)) fun (t37:Bool)=>j38 t37 h_21) (j38 false h_21)) fun j32=>ifB t26 (obind (fldP 14 v1) fun t28=>obind (fldP 0 t28) fun t29=>obind (ldCell h_18 t29) fun v30=>obind (avInt .i64 v30) fun t30=>lett (decide (t30≤1099511627776)) fun (t31:Bool)=>j32 t31 h_18) (j32 false h_18)) fun j26=>ifB t20 (obind (fldP 14 v1) fun t22=>obind (fldP 0 t22) fun t23=>obind (ldCell h_15 t23) fun v24=>obind (avInt .i64 v24) fun t24=>lett (decide (t24≥1)) fun (t25:Bool)=>j26 t25 h_15) (j26 false h_15)) fun j20=>ifB t15 (obind (fldP 13 v1) fun t17=>obind (ldCell h_12 t17) fun v18=>obind (avInt .i64 v18) fun t18=>lett (decide (t18≤1048576)) fun (t19:Bool)=>j20 t19 h_12) (j20 false h_12)) fun j15=>ifB t10 (obind (fldP 13 v1) fun t12=>obind (ldCell h_9 t12) fun v13=>obind (avInt .i64 v13) fun t13=>lett (decide (t13≥1)) fun (t14:Bool)=>j15 t14 h_9) (j15 false h_9)) fun j10=>ifB t5 (obind (fldP 1 v1) fun t7=>obind (ldCell h_2 t7) fun v8=>obind (avInt .i64 v8) fun t8=>lett (decide (t8<16)) fun (t9:Bool)=>j10 t9 h_2) (j10 false h_2)
theorem gateway_isRight_ok{call:CallF}(_:SaysAll Pg call){n:Nat}{t0:List AV}{h:AHeap}{rR:ARes}{hR:AHeap}(z:gateway_isRight call n t0 h=some (rR,hR)):Says Pg 23 [.agg t0] h rR hR:=by
 unfold gateway_isRight at z;refine sO Try.func23 fun w0 m0=>wW [(0,.agg t0)] (oG fun n1=>W.r (oK 1 z fun v1 h_2 z=>oA 2 (.bool false) (oV [(1,v1)] (n1 (W.s (fun K4 n4 _ _ _=>W.r (oF 3 33 1 z fun t3 z=>oLi 4 3 z fun t4 z=>oB 5 z fun t5 z=>oA 6 (.bool t5) ?_)))))));obtain⟨j10,e10,z⟩:=lS z
 have J11:∀(t10:Bool) (h_9:AHeap),j10 t10 h_9=some (rR,hR)→WL Pg w0 m0 (Func.ntmps Try.f23) (Code.ops (y6 (y3 (codeOf Try.f23)))) 8 K4 [(1,v1),(10,.bool t10)] [] h_9:=by
  intro t10 h_9 z;rw[e10] at z;refine oA 11 (.bool t10) ?_;obtain⟨j15,e13,z⟩:=lS z
  have J14:∀(t15:Bool) (h_12:AHeap),j15 t15 h_12=some (rR,hR)→WL Pg w0 m0 (Func.ntmps Try.f23) (Code.ops (y6 (y3 (codeOf Try.f23)))) 13 K4 [(1,v1),(15,.bool t15)] [] h_12:=by
   intro t15 h_12 z;rw[e13] at z;refine oA 16 (.bool t15) ?_;obtain⟨j20,e16,z⟩:=lS z
   have J17:∀(t20:Bool) (h_15:AHeap),j20 t20 h_15=some (rR,hR)→WL Pg w0 m0 (Func.ntmps Try.f23) (Code.ops (y6 (y3 (codeOf Try.f23)))) 18 K4 [(1,v1),(20,.bool t20)] [] h_15:=by
    intro t20 h_15 z;rw[e16] at z;refine oA 21 (.bool t20) ?_;obtain⟨j26,e19,z⟩:=lS z
    have J20:∀(t26:Bool) (h_18:AHeap),j26 t26 h_18=some (rR,hR)→WL Pg w0 m0 (Func.ntmps Try.f23) (Code.ops (y6 (y3 (codeOf Try.f23)))) 24 K4 [(1,v1),(26,.bool t26)] [] h_18:=by
     intro t26 h_18 z;rw[e19] at z;refine oA 27 (.bool t26) ?_;obtain⟨j32,e22,z⟩:=lS z
     have J23:∀(t32:Bool) (h_21:AHeap),j32 t32 h_21=some (rR,hR)→WL Pg w0 m0 (Func.ntmps Try.f23) (Code.ops (y6 (y3 (codeOf Try.f23)))) 30 K4 [(1,v1),(32,.bool t32)] [] h_21:=by
      intro t32 h_21 z;rw[e22] at z;refine oA 33 (.bool t32) ?_;obtain⟨j38,e25,z⟩:=lS z
      have J26:∀(t38:Bool) (h_24:AHeap),j38 t38 h_24=some (rR,hR)→WL Pg w0 m0 (Func.ntmps Try.f23) (Code.ops (y6 (y3 (codeOf Try.f23)))) 36 K4 [(1,v1),(38,.bool t38)] [] h_24:=by
       intro t38 h_24 z;rw[e25] at z;refine oA 39 (.bool t38) ?_;obtain⟨j44,e28,z⟩:=lS z
       have J29:∀(t44:Bool) (h_27:AHeap),j44 t44 h_27=some (rR,hR)→WL Pg w0 m0 (Func.ntmps Try.f23) (Code.ops (y6 (y3 (codeOf Try.f23)))) 42 K4 [(44,.bool t44)] [] h_27:=by
        intro t44 h_27 z;rw[e28] at z;exact oA 2 (.bool t44) (oV [(2,.bool t44)] (n4 (oY (lZ z [.tmp 2] [.bool t44] (rT res_nil)))))
       cases t38 with
       |true=>
        replace z:=ifB_t z
        exact oF 40 33 14 z fun t40 z=>oF 41 31 1 z fun t41 z=>oLi 42 3 z fun t42 z=>oB 43 z fun t43 z=>oA 44 (.bool t43) (lW _ (J29 _ _ z))
       |false=>
        replace z:=ifB_f z
        exact WL.o (some 40) (WL.o (some 41) (WL.o (some 42) (WL.o (some 43) (oA 44 (.bool false) (lW _ (J29 _ _ z))))))
      cases t32 with
      |true=>
       replace z:=ifB_t z
       exact oF 34 33 14 z fun t34 z=>oF 35 31 1 z fun t35 z=>oLi 36 3 z fun t36 z=>oB 37 z fun t37 z=>oA 38 (.bool t37) (lW _ (J26 _ _ z))
      |false=>
       replace z:=ifB_f z
       exact WL.o (some 34) (WL.o (some 35) (WL.o (some 36) (WL.o (some 37) (oA 38 (.bool false) (lW _ (J26 _ _ z))))))
     cases t26 with
     |true=>
      replace z:=ifB_t z
      exact oF 28 33 14 z fun t28 z=>oF 29 31 0 z fun t29 z=>oLi 30 3 z fun t30 z=>oB 31 z fun t31 z=>oA 32 (.bool t31) (lW _ (J23 _ _ z))
     |false=>
      replace z:=ifB_f z
      exact WL.o (some 28) (WL.o (some 29) (WL.o (some 30) (WL.o (some 31) (oA 32 (.bool false) (lW _ (J23 _ _ z))))))
    cases t20 with
    |true=>
     replace z:=ifB_t z
     exact oF 22 33 14 z fun t22 z=>oF 23 31 0 z fun t23 z=>oLi 24 3 z fun t24 z=>oB 25 z fun t25 z=>oA 26 (.bool t25) (lW _ (J20 _ _ z))
    |false=>
     replace z:=ifB_f z
     exact WL.o (some 22) (WL.o (some 23) (WL.o (some 24) (WL.o (some 25) (oA 26 (.bool false) (lW _ (J20 _ _ z))))))
   cases t15 with
   |true=>
    replace z:=ifB_t z
    exact oF 17 33 13 z fun t17 z=>oLi 18 3 z fun t18 z=>oB 19 z fun t19 z=>oA 20 (.bool t19) (lW _ (J17 _ _ z))
   |false=>
    replace z:=ifB_f z
    exact WL.o (some 17) (WL.o (some 18) (WL.o (some 19) (oA 20 (.bool false) (lW _ (J17 _ _ z)))))
  cases t10 with
  |true=>
   replace z:=ifB_t z
   exact oF 12 33 13 z fun t12 z=>oLi 13 3 z fun t13 z=>oB 14 z fun t14 z=>oA 15 (.bool t14) (lW _ (J14 _ _ z))
  |false=>
   replace z:=ifB_f z
   exact WL.o (some 12) (WL.o (some 13) (WL.o (some 14) (oA 15 (.bool false) (lW _ (J14 _ _ z)))))
 cases t5 with
 |true=>
  replace z:=ifB_t z
  exact oF 7 33 1 z fun t7 z=>oLi 8 3 z fun t8 z=>oB 9 z fun t9 z=>oA 10 (.bool t9) (lW _ (J11 _ _ z))
 |false=>
  replace z:=ifB_f z
  exact WL.o (some 7) (WL.o (some 8) (WL.o (some 9) (oA 10 (.bool false) (lW _ (J11 _ _ z)))))
noncomputable def gateway_Gateway_fenced(call:CallF)(_:Nat)(t0:AV)(t1:List AV)(t2:AV)(t3:AV)(h:AHeap):R:=outK (opBox h 33 (some (.agg t1))) fun v5 h_2=>lett (newH h_2 33 [.int .u8 0,.int .i64 0,.int .i64 0,.int .i64 0,.int .i64 0,.int .i64 0,.int .i64 0,.int .i64 0,.bool false,.nsl,.int .i64 0,.int .i64 0,.str 0 0,.int .i64 0,.int .i64 0,.int .i64 0,.int .i64 0,.int .i64 0,.int .i64 0,.int .u8 0,.int .i64 0,.int .i64 0]) fun h_4=>obind (fldP 13 v5) fun t16=>obind (ldCell h_4 t16) fun v17=>obind (avInt .i64 v17) fun t17=>callN (call 13 [t0,.int .i64 t17] h_4) fun r18 h_10=>obind (extT 0 r18) fun v19=>obind (avAgg v19) fun t19=>obind (extT 1 r18) fun v20=>obind (avInt .i64 v20) fun t20=>lett (newH h_10 31 [.int .i64 0,.int .i64 0]) fun h_16=>obind (stRow h_16 2 t19 (newP h_10)) fun h_18=>obind (fldP 0 v5) fun t21=>obind (ldCell h_18 t21) fun v22=>obind (avInt .u8 v22) fun t22=>lett (IntKind.u8.wrap (t22+1)) fun (t23:Int)=>obind (fldP 1 v5) fun t24=>obind (ldCell h_18 t24) fun v25=>obind (avInt .i64 v25) fun t25=>obind (fldP 13 v5) fun t26=>obind (ldCell h_18 t26) fun v27=>obind (avInt .i64 v27) fun t27=>obind (fldP 14 v5) fun t28=>obind (ldRow h_18 2 t28) fun t29=>obind (bldS Pg 33 [(0,.int .u8 t23),(1,.int .i64 3),(2,.int .i64 t25),(13,.int .i64 t27),(14,.agg t29),(15,.int .i64 t20)]) fun t31=>lett (newH h_18 33 [.int .u8 0,.int .i64 0,.int .i64 0,.int .i64 0,.int .i64 0,.int .i64 0,.int .i64 0,.int .i64 0,.bool false,.nsl,.int .i64 0,.int .i64 0,.str 0 0,.int .i64 0,.int .i64 0,.int .i64 0,.int .i64 0,.int .i64 0,.int .i64 0,.int .u8 0,.int .i64 0,.int .i64 0]) fun h_34=>obind (stRow h_34 22 t31 (newP h_18)) fun h_36=>obind (ldRow h_36 2 (newP h_10)) fun t32=>obind (fldP 14 v5) fun t33=>obind (ldRow h_36 2 t33) fun t34=>callN (call 19 [.agg t32,.agg t34] h_36) fun r35 h_43=>obind (avBool r35) fun t35=>ifB t35 (obind (ldRow h_43 2 (newP h_10)) fun t36=>obind (stRow h_43 2 t36 (AV.ptr (AHeap.next h_18) 14)) fun h_48=>obind (stRow h_48 1 [.int .i64 220] (AV.ptr (AHeap.next h_18) 20)) fun h_50=>obind (ldRow h_50 22 (newP h_18)) fun t39=>obind (stRow h_50 22 t39 (newP h_2)) fun h_54=>obind (ldRow h_54 22 (newP h_2)) fun w8=>some (.ret (.tup [.agg w8,.int .i64 0]),h_54)) (obind (ldRow h_43 22 v5) fun t41=>callN (dynC Pg call t3 [.agg t41,t2,(newP h_18)] h_43) fun r43 h_60=>obind (avInt .i64 r43) fun t43=>lett ((t43:Int) != 0) fun (t45:Bool)=>ifB t45 (obind (nilC t0) fun t48=>obind (fldP 2 t48) fun t49=>obind (stRow h_60 1 [.int .i64 t43] t49) fun h_68=>obind (stRow h_68 22 ([.int .u8 0,.int .i64 0,.int .i64 0,.int .i64 0,.int .i64 0,.int .i64 0,.int .i64 0,.int .i64 0,.bool false,.nsl,.int .i64 0,.int .i64 0,.str 0 0,.int .i64 0,.int .i64 0,.int .i64 0,.int .i64 0,.int .i64 0,.int .i64 0,.int .u8 0,.int .i64 0,.int .i64 0]:List AV) (newP h_2)) fun h_71=>obind (ldRow h_71 22 (newP h_2)) fun w8_74=>some (.ret (.tup [.agg w8_74,.int .i64 t43]),h_71)) (obind (nilC t0) fun t53=>obind (fldP 1 t53) fun t54=>obind (ldCell h_60 t54) fun v55=>obind (fldP 13 v5) fun t56=>obind (ldCell h_60 t56) fun v57=>obind (avInt .i64 v57) fun t57=>obind (fldP 14 v5) fun t58=>obind (ldRow h_60 2 t58) fun t59=>effK (opMapUpdate Pg h_60 71 (some v55) (some (.int .i64 t57)) (some (.agg t59))) fun h_84=>obind (ldRow h_84 22 (newP h_18)) fun t60=>obind (stRow h_84 22 t60 (newP h_2)) fun h_88=>obind (ldRow h_88 22 (newP h_2)) fun w8_91=>some (.ret (.tup [.agg w8_91,.int .i64 0]),h_88)))
theorem gateway_Gateway_fenced_ok{call:CallF}(hc:SaysAll Pg call){n:Nat}{t0:AV}{t1:List AV}{t2:AV}{t3:AV}{h:AHeap}{rR:ARes}{hR:AHeap}(z:gateway_Gateway_fenced call n t0 t1 t2 t3 h=some (rR,hR)):Says Pg 24 [t0,.agg t1,t2,t3] h rR hR:=by
 unfold gateway_Gateway_fenced at z;refine sO Try.func24 fun w0 m0=>wW [(0,t0),(1,.agg t1),(2,t2),(3,t3)] (oG fun n1=>W.r (oK 5 z fun v5 h_2 z=>oN 8 z fun h_4 z=>oA 9 (.int .i64 0) (oV [(0,t0),(2,t2),(3,t3),(5,v5),(8,newP h_2)] (n1 (oG fun n6=>W.r (oA 15 t0 (oF 16 33 13 z fun t16 z=>oLi 17 3 z fun t17 z=>oC hc (some 18) z fun r18 h_10 z=>oA 14 r18 (oEa 19 z fun t19 z=>oEi 20 z fun t20 z=>oN 10 z fun h_16 z=>oW 31 (.agg t19) z fun h_18 z=>oA 11 (.int .i64 t20) (oV [(0,t0),(2,t2),(3,t3),(5,v5),(8,newP h_2),(10,newP h_10),(11,.int .i64 t20)] (n6 (oG fun n20=>W.r (oF 21 33 0 z fun t21 z=>oLi 22 5 z fun t22 z=>oI 23 .u8 z fun t23 z=>oF 24 33 1 z fun t24 z=>oLi 25 3 z fun t25 z=>oF 26 33 13 z fun t26 z=>oLi 27 3 z fun t27 z=>oF 28 33 14 z fun t28 z=>oR 29 31 z fun t29 z=>oA 30 (.int .i64 t20) ?_))))))))))));obtain⟨t31,e33,z⟩:=oS z;refine WL.val (d:=(some 31)) (v:=.agg t31) (h':=h_18) (by kernel_rfl) (by kernel_rfl) (bld_ok (by kernel_rfl) e33) (oN 12 z fun h_34 z=>oW 33 (.agg t31) z fun h_36 z=>oV [(0,t0),(2,t2),(3,t3),(5,v5),(8,newP h_2),(10,newP h_10),(12,newP h_18)] (n20 (oH fun n38 q38=>oG fun n39=>W.r (oR 32 31 z fun t32 z=>oF 33 33 14 z fun t33 z=>oR 34 31 z fun t34 z=>oCb hc 35 z fun t35 h_43 z=>oV [(0,t0),(2,t2),(3,t3),(5,v5),(8,newP h_2),(10,newP h_10),(12,newP h_18),(35,.bool t35)] (n39 ?_)))))
 cases t35 with
 |true=>
  refine oT z fun z=>oG fun n46=>W.r (oR 36 31 z fun t36 z=>oA 37 (AV.ptr (AHeap.next h_18) 14) (oW 31 (.agg t36) z fun h_48 z=>oA 38 (AV.ptr (AHeap.next h_18) 20) (oW 26 (.int .i64 220) z fun h_50 z=>oV [(8,newP h_2),(12,newP h_18)] (n46 (oG fun n52=>W.r (oR 39 33 z fun t39 z=>oW 33 (.agg t39) z fun h_54 z=>oA 9 (.int .i64 0) (oV [(8,newP h_2),(9,.int .i64 0)] (n52 (oY (q38 ?_))))))))));obtain⟨w8,e56,z⟩:=oS z;exact lZ z [.cell 8 33,.tmp 9] [.agg w8,.int .i64 0] (rY e56 (rT res_nil))
 |false=>
  refine oU z fun z=>oZ (n38 (oH fun n57 q57=>oG fun n58=>W.r (oA 40 t3 (oR 41 33 z fun t41 z=>oA 42 t2 ?_))))
  replace z:=callN_some z;obtain⟨r43,h_60,e61,z⟩:=z
  replace z:=oS z;obtain⟨t43,c62,z⟩:=z
  have c62:=avInt_some c62;subst c62
  rcases dynC_some e61 with⟨d92g,d92as,d92h,d921,d922⟩|⟨d92v,d92h,d921,d922⟩
  rotate_left
  ·cases d922
   refine WL.val (d:=(some 43)) (by kernel_rfl) (by kernel_rfl) (Eq.trans (by kernel_rfl) d921) (oA 13 (.int .i64 t43) (oV [(0,t0),(5,v5),(8,newP h_2),(12,newP h_18),(13,.int .i64 t43)] (n58 (W.s (fun K63 n63 e63 q63 p63=>W.r (oA 44 (.int .i64 t43) ?_))))));obtain⟨t45,e64,z⟩:=lS z;refine WL.val (d:=(some 45)) (v:=.bool t45) (h':=h_60) (by kernel_rfl) (by kernel_rfl) (val_of AV.bool e64 (by kernel_rfl)) (oV [(0,t0),(5,v5),(8,newP h_2),(12,newP h_18),(13,.int .i64 t43),(45,.bool t45)] (n63 ?_))
   cases t45 with
   |true=>
    refine oT z fun z=>W.s (fun K65 n65 e65 q65 p65=>W.r (oA 46 t0 (oA 47 (.int .i64 t43) ?_)));obtain⟨t48,e66,z⟩:=oS z;refine WL.b (some 48) t48 h_60 (nil_chk (h:=h_60) e66) ?_;obtain⟨t49,e67,z⟩:=oS z;refine WL.b (some 49) t49 h_60 (field_ptr (P:=Pg) (h:=h_60) (s:=73) (f:=2) (by kernel_rfl) e67) ?_;obtain⟨h_68,e69,z⟩:=oS z;refine WL.e h_68 (store_row (P:=Pg) (h:=h_60) (t:=26) (v:=(.int .i64 t43)) (by kernel_rfl) (by kernel_rfl) e69) (oV [(8,newP h_2),(13,.int .i64 t43)] (n65 (W.s (fun K70 n70 e70 q70 p70=>W.r (oA 50 (.agg ([.int .u8 0,.int .i64 0,.int .i64 0,.int .i64 0,.int .i64 0,.int .i64 0,.int .i64 0,.int .i64 0,.bool false,.nsl,.int .i64 0,.int .i64 0,.str 0 0,.int .i64 0,.int .i64 0,.int .i64 0,.int .i64 0,.int .i64 0,.int .i64 0,.int .u8 0,.int .i64 0,.int .i64 0]:List AV)) (oA 51 (.int .i64 t43) ?_))))));obtain⟨h_71,e72,z⟩:=oS z;refine WL.e h_71 (store_row (P:=Pg) (h:=h_68) (t:=33) (v:=(.agg ([.int .u8 0,.int .i64 0,.int .i64 0,.int .i64 0,.int .i64 0,.int .i64 0,.int .i64 0,.int .i64 0,.bool false,.nsl,.int .i64 0,.int .i64 0,.str 0 0,.int .i64 0,.int .i64 0,.int .i64 0,.int .i64 0,.int .i64 0,.int .i64 0,.int .u8 0,.int .i64 0,.int .i64 0]:List AV))) (by kernel_rfl) (by kernel_rfl) e72) (oA 9 (.int .i64 t43) (oV [(8,newP h_2),(9,.int .i64 t43)] (n70 (oY (q57 ?_)))));obtain⟨w8_74,e73,z⟩:=oS z;exact lZ z [.cell 8 33,.tmp 9] [.agg w8_74,.int .i64 t43] (rY e73 (rT res_nil))
   |false=>
    refine oU z fun z=>oZ (n57 (W.s (fun K75 n75 e75 q75 p75=>y15 (by kernel_rfl) (hc.ok w0) (plan:=[0,1,2,3,4,5,6,7,8]) (by kernel_rfl) (by kernel_rfl) (by kernel_rfl) (WD.a 0 (some 52) t0 h_60 ?_))));obtain⟨t53,e76,z⟩:=oS z;refine WD.b 0 (some 53) t53 h_60 (nil_chk (h:=h_60) e76) ?_;obtain⟨t54,e77,z⟩:=oS z;refine WD.b 0 (some 54) t54 h_60 (field_ptr (P:=Pg) (h:=h_60) (s:=73) (f:=1) (by kernel_rfl) e77) ?_;obtain⟨v55,e78,z⟩:=oS z;refine WD.b 1 (some 55) v55 h_60 (load_cell (P:=Pg) (h:=h_60) (t:=71) (by kernel_rfl) e78) ?_;obtain⟨t56,e79,z⟩:=oS z;refine WD.b 0 (some 56) t56 h_60 (field_ptr (P:=Pg) (h:=h_60) (s:=33) (f:=13) (by kernel_rfl) e79) ?_
    replace z:=oS z;obtain⟨v57,e80,z⟩:=z
    replace z:=oS z;obtain⟨t57,c81,z⟩:=z
    have c81:=avInt_some c81;subst c81;refine WD.b 1 (some 57) (.int .i64 t57) h_60 (load_cell (P:=Pg) (h:=h_60) (t:=3) (by kernel_rfl) e80) ?_;obtain⟨t58,e82,z⟩:=oS z;refine WD.b 0 (some 58) t58 h_60 (field_ptr (P:=Pg) (h:=h_60) (s:=33) (f:=14) (by kernel_rfl) e82) ?_;obtain⟨t59,e83,z⟩:=oS z;refine WD.b 1 (some 59) (.agg t59) h_60 (load_row (P:=Pg) (h:=h_60) (t:=31) (by kernel_rfl) (by kernel_rfl) e83) ?_;obtain⟨h_84,e85,z⟩:=effK_some z;refine WD.eff (h':=h_84) (by kernel_rfl) (by kernel_rfl) (Eq.trans (by kernel_rfl) e85) (k:=2) (by kernel_rfl) (fun _=>(by kernel_rfl)) (by decide) (WD.nil (gW [(8,newP h_2),(12,newP h_18)] (n75 (W.s (fun K86 n86 e86 q86 p86=>W.r ?_)))));obtain⟨t60,e87,z⟩:=oS z;refine WL.b (some 60) (.agg t60) h_84 (load_row (P:=Pg) (h:=h_84) (t:=33) (by kernel_rfl) (by kernel_rfl) e87) ?_;obtain⟨h_88,e89,z⟩:=oS z;refine WL.e h_88 (store_row (P:=Pg) (h:=h_84) (t:=33) (v:=(.agg t60)) (by kernel_rfl) (by kernel_rfl) e89) (oA 9 (.int .i64 0) (oV [(8,newP h_2),(9,.int .i64 0)] (n86 (oY ?_))));obtain⟨w8_91,e90,z⟩:=oS z;exact lZ z [.cell 8 33,.tmp 9] [.agg w8_91,.int .i64 0] (rY e90 (rT res_nil))
  ·refine WL.call (hc.ok w0) (d := (some 43)) (by kernel_rfl) (by kernel_rfl) (Eq.trans (by kernel_rfl) d921) d922 (oA 13 (.int .i64 t43) (oV [(0, t0), (5, v5), (8, newP h_2), (12, newP h_18), (13, .int .i64 t43)] (n58 (W.s (fun K63 n63 e63 q63 p63 => W.r (oA 44 (.int .i64 t43) ?_))))))
   obtain⟨t45,e64,z⟩:=lS z;refine WL.val (d:=(some 45)) (v:=.bool t45) (h':=h_60) (by kernel_rfl) (by kernel_rfl) (val_of AV.bool e64 (by kernel_rfl)) (oV [(0,t0),(5,v5),(8,newP h_2),(12,newP h_18),(13,.int .i64 t43),(45,.bool t45)] (n63 ?_))
   cases t45 with
   |true=>
    refine oT z fun z=>W.s (fun K65 n65 e65 q65 p65=>W.r (oA 46 t0 (oA 47 (.int .i64 t43) ?_)));obtain⟨t48,e66,z⟩:=oS z;refine WL.b (some 48) t48 h_60 (nil_chk (h:=h_60) e66) ?_;obtain⟨t49,e67,z⟩:=oS z;refine WL.b (some 49) t49 h_60 (field_ptr (P:=Pg) (h:=h_60) (s:=73) (f:=2) (by kernel_rfl) e67) ?_;obtain⟨h_68,e69,z⟩:=oS z;refine WL.e h_68 (store_row (P:=Pg) (h:=h_60) (t:=26) (v:=(.int .i64 t43)) (by kernel_rfl) (by kernel_rfl) e69) (oV [(8,newP h_2),(13,.int .i64 t43)] (n65 (W.s (fun K70 n70 e70 q70 p70=>W.r (oA 50 (.agg ([.int .u8 0,.int .i64 0,.int .i64 0,.int .i64 0,.int .i64 0,.int .i64 0,.int .i64 0,.int .i64 0,.bool false,.nsl,.int .i64 0,.int .i64 0,.str 0 0,.int .i64 0,.int .i64 0,.int .i64 0,.int .i64 0,.int .i64 0,.int .i64 0,.int .u8 0,.int .i64 0,.int .i64 0]:List AV)) (oA 51 (.int .i64 t43) ?_))))));obtain⟨h_71,e72,z⟩:=oS z;refine WL.e h_71 (store_row (P:=Pg) (h:=h_68) (t:=33) (v:=(.agg ([.int .u8 0,.int .i64 0,.int .i64 0,.int .i64 0,.int .i64 0,.int .i64 0,.int .i64 0,.int .i64 0,.bool false,.nsl,.int .i64 0,.int .i64 0,.str 0 0,.int .i64 0,.int .i64 0,.int .i64 0,.int .i64 0,.int .i64 0,.int .i64 0,.int .u8 0,.int .i64 0,.int .i64 0]:List AV))) (by kernel_rfl) (by kernel_rfl) e72) (oA 9 (.int .i64 t43) (oV [(8,newP h_2),(9,.int .i64 t43)] (n70 (oY (q57 ?_)))));obtain⟨w8_74,e73,z⟩:=oS z;exact lZ z [.cell 8 33,.tmp 9] [.agg w8_74,.int .i64 t43] (rY e73 (rT res_nil))
   |false=>
    refine oU z fun z=>oZ (n57 (W.s (fun K75 n75 e75 q75 p75=>y15 (by kernel_rfl) (hc.ok w0) (plan:=[0,1,2,3,4,5,6,7,8]) (by kernel_rfl) (by kernel_rfl) (by kernel_rfl) (WD.a 0 (some 52) t0 h_60 ?_))));obtain⟨t53,e76,z⟩:=oS z;refine WD.b 0 (some 53) t53 h_60 (nil_chk (h:=h_60) e76) ?_;obtain⟨t54,e77,z⟩:=oS z;refine WD.b 0 (some 54) t54 h_60 (field_ptr (P:=Pg) (h:=h_60) (s:=73) (f:=1) (by kernel_rfl) e77) ?_;obtain⟨v55,e78,z⟩:=oS z;refine WD.b 1 (some 55) v55 h_60 (load_cell (P:=Pg) (h:=h_60) (t:=71) (by kernel_rfl) e78) ?_;obtain⟨t56,e79,z⟩:=oS z;refine WD.b 0 (some 56) t56 h_60 (field_ptr (P:=Pg) (h:=h_60) (s:=33) (f:=13) (by kernel_rfl) e79) ?_
    replace z:=oS z;obtain⟨v57,e80,z⟩:=z
    replace z:=oS z;obtain⟨t57,c81,z⟩:=z
    have c81:=avInt_some c81;subst c81;refine WD.b 1 (some 57) (.int .i64 t57) h_60 (load_cell (P:=Pg) (h:=h_60) (t:=3) (by kernel_rfl) e80) ?_;obtain⟨t58,e82,z⟩:=oS z;refine WD.b 0 (some 58) t58 h_60 (field_ptr (P:=Pg) (h:=h_60) (s:=33) (f:=14) (by kernel_rfl) e82) ?_;obtain⟨t59,e83,z⟩:=oS z;refine WD.b 1 (some 59) (.agg t59) h_60 (load_row (P:=Pg) (h:=h_60) (t:=31) (by kernel_rfl) (by kernel_rfl) e83) ?_;obtain⟨h_84,e85,z⟩:=effK_some z;refine WD.eff (h':=h_84) (by kernel_rfl) (by kernel_rfl) (Eq.trans (by kernel_rfl) e85) (k:=2) (by kernel_rfl) (fun _=>(by kernel_rfl)) (by decide) (WD.nil (gW [(8,newP h_2),(12,newP h_18)] (n75 (W.s (fun K86 n86 e86 q86 p86=>W.r ?_)))));obtain⟨t60,e87,z⟩:=oS z;refine WL.b (some 60) (.agg t60) h_84 (load_row (P:=Pg) (h:=h_84) (t:=33) (by kernel_rfl) (by kernel_rfl) e87) ?_;obtain⟨h_88,e89,z⟩:=oS z;refine WL.e h_88 (store_row (P:=Pg) (h:=h_84) (t:=33) (v:=(.agg t60)) (by kernel_rfl) (by kernel_rfl) e89) (oA 9 (.int .i64 0) (oV [(8,newP h_2),(9,.int .i64 0)] (n86 (oY ?_))));obtain⟨w8_91,e90,z⟩:=oS z;exact lZ z [.cell 8 33,.tmp 9] [.agg w8_91,.int .i64 0] (rY e90 (rT res_nil))
noncomputable def gateway_Gateway_attach(call:CallF)(_:Nat)(_:AV)(t1:List AV)(t2:AV)(t3:AV)(h:AHeap):R:=outK (opBox h 33 (some (.agg t1))) fun _ h_2=>callN (call 39 [t2] h_2) fun r11 h_5=>obind (avInt .i64 r11) fun t11=>obind (nilC t3) fun t12=>obind (fldP 11 t12) fun t13=>obind (stRow h_5 1 [.int .i64 t11] t13) fun h_10=>some (.ret (.int .i64 0),h_10)
theorem gateway_Gateway_attach_ok{call:CallF}(hc:SaysAll Pg call){n:Nat}{t0:AV}{t1:List AV}{t2:AV}{t3:AV}{h:AHeap}{rR:ARes}{hR:AHeap}(z:gateway_Gateway_attach call n t0 t1 t2 t3 h=some (rR,hR)):Says Pg 25 [t0,.agg t1,t2,t3] h rR hR:=by
 unfold gateway_Gateway_attach at z;exact sO Try.func25 fun w0 m0=>wW [(1,.agg t1),(2,t2),(3,t3)] (oG fun n1=>W.r (oK 5 z fun v5 h_2 z=>oA 8 (.int .i64 0) (oV [(2,t2),(3,t3)] (n1 (oG fun n4=>W.r (oA 9 t3 (oA 10 t2 (oCi hc 11 z fun t11 h_5 z=>oC0 12 z fun t12 z=>oF 13 33 11 z fun t13 z=>oW 3 (.int .i64 t11) z fun h_10 z=>oV [] (n4 (oG fun n12=>W.r (oA 8 (.int .i64 0) (oV [(8,.int .i64 0)] (n12 (oY (lZ z [.tmp 8] [.int .i64 0] (rT res_nil))))))))))))))))
noncomputable def gateway_Gateway_send(call:CallF)(_:Nat)(t0:AV)(t1:List AV)(_:AV)(t3:AV)(h:AHeap):R:=outK (opBox h 33 (some (.agg t1))) fun v5 h_2=>obind (nilC t3) fun t11=>obind (fldP 16 t11) fun t12=>obind (ldCell h_2 t12) fun v13=>obind (avInt .i64 v13) fun t13=>obind (fldP 12 v5) fun t34=>obind (ldCell h_2 t34) fun v35=>obind (avStr v35) fun t35=>lett (decide ((lenS t35)>64)) fun (t37:Bool)=>lett (fun (h_17:AHeap)=>some (.ret (.int .i64 0),h_17)) fun k16=>ifB t37 (obind (nilC t3) fun t39=>obind (fldP 20 t39) fun t40=>obind (stRow h_2 1 [.int .i64 3] t40) fun h_21=>k16 h_21) (obind (fldP 16 v5) fun t42=>obind (ldCell h_2 t42) fun v43=>obind (avInt .i64 v43) fun t43=>lett (decide (t43≥1)) fun (t44:Bool)=>lett (fun (t50:Bool) (h_28:AHeap)=>lett (fun (h_32:AHeap)=>k16 h_32) fun k31=>ifB t50 (k31 h_28) (obind (fldP 16 v5) fun t52=>obind (ldCell h_28 t52) fun v53=>obind (avInt .i64 v53) fun t53=>lett (IntKind.i64.wrap (t13+1)) fun (t55:Int)=>lett ((t53:Int) != t55) fun (t56:Bool)=>ifB t56 (obind (nilC t3) fun t58=>obind (fldP 20 t58) fun t59=>obind (stRow h_28 1 [.int .i64 221] t59) fun h_41=>k31 h_41) (obind (fldP 16 v5) fun t15=>obind (ldCell h_28 t15) fun v16=>obind (avInt .i64 v16) fun t16=>obind (nilC t3) fun t17=>obind (fldP 16 t17) fun t18=>obind (stRow h_28 1 [.int .i64 t16] t18) fun h_49=>obind (nilC t0) fun t20=>obind (fldP 0 t20) fun t21=>obind (ldCell h_49 t21) fun v22=>obind (fldP 13 v5) fun t23=>obind (ldCell h_49 t23) fun v24=>obind (avInt .i64 v24) fun t24=>obind (fldP 14 v5) fun t25=>obind (ldRow h_49 2 t25) fun t26=>obind (fldP 16 v5) fun t27=>obind (ldCell h_49 t27) fun v28=>obind (avInt .i64 v28) fun t28=>obind (fldP 12 v5) fun t29=>obind (ldCell h_49 t29) fun v30=>obind (avStr v30) fun t30=>obind (bldS Pg 56 [(0,.int .i64 t24),(1,.agg t26),(2,.int .i64 t28),(3,strA t30)]) fun t31=>callN (call 40 [v22,.agg t31] h_49) fun r32 h_67=>obind (avInt .i64 r32) fun t32=>some (.ret (.int .i64 t32),h_67)))) fun j50=>ifB t44 (obind (fldP 16 v5) fun t46=>obind (ldCell h_2 t46) fun v47=>obind (avInt .i64 v47) fun t47=>lett (decide (t47≤t13)) fun (t49:Bool)=>j50 t49 h_2) (j50 false h_2))
theorem gateway_Gateway_send_ok{call:CallF}(hc:SaysAll Pg call){n:Nat}{t0:AV}{t1:List AV}{t2:AV}{t3:AV}{h:AHeap}{rR:ARes}{hR:AHeap}(z:gateway_Gateway_send call n t0 t1 t2 t3 h=some (rR,hR)):Says Pg 26 [t0,.agg t1,t2,t3] h rR hR:=by
 unfold gateway_Gateway_send at z;refine sO Try.func26 fun w0 m0=>wW [(0,t0),(1,.agg t1),(3,t3)] (oG fun n1=>W.r (oK 5 z fun v5 h_2 z=>oA 8 (.int .i64 0) (oV [(0,t0),(3,t3),(5,v5)] (n1 (oG fun n4=>W.r (oA 10 t3 (oC0 11 z fun t11 z=>oF 12 33 15 z fun t12 z=>oLi 13 3 z fun t13 z=>oA 9 (.int .i64 t13) (oV [(0,t0),(3,t3),(5,v5),(9,.int .i64 t13)] (n4 (oH fun n9 q9=>W.blockK (by kernel_rfl) (fun K10 n10 s10 o10 q10 p10=>oG fun n11=>W.r (oF 34 33 12 z fun t34 z=>oLs 35 9 z fun t35 z=>oA 36 (.int .i64 (lenS t35)) (oB 37 z fun t37 z=>oA 33 (.bool t37) (oV [(0,t0),(3,t3),(5,v5),(9,.int .i64 t13),(33,.bool t37)] (n11 ?_)))))))))))))));obtain⟨k16,e16,z⟩:=lS z
 have J16:∀(h_17:AHeap),k16 h_17=some (rR,hR)→Go w0 m0 (Func.ntmps Try.f26) (K10 .normal) [] [] h_17:=by
  intro h_17 z;rw[e16] at z;exact n10 (n9 (oG fun n18=>W.r (oA 8 (.int .i64 0) (oV [(8,.int .i64 0)] (n18 (oY (lZ z [.tmp 8] [.int .i64 0] (rT res_nil))))))))
 cases t37 with
 |true=>
  exact oT z fun z=>W.r (oA 38 t3 (oC0 39 z fun t39 z=>oF 40 33 19 z fun t40 z=>oW 26 (.int .i64 3) z fun h_21 z=>oV [] (gW _ (J16 _ z))))
 |false=>
  refine oU z fun z=>W.s (fun K23 n23 _ _ _=>W.r (oF 42 33 15 z fun t42 z=>oLi 43 3 z fun t43 z=>oB 44 z fun t44 z=>oA 45 (.bool t44) ?_));obtain⟨j50,e29,z⟩:=lS z
  have J30:∀(t50:Bool) (h_28:AHeap),j50 t50 h_28=some (rR,hR)→WL Pg w0 m0 (Func.ntmps Try.f26) (Code.ops (y6 (y3 (y3 (y6 (y6 (y3 (y3 (codeOf Try.f26))))))))) 9 K23 [(0,t0),(3,t3),(5,v5),(9,.int .i64 t13),(50,.bool t50)] [] h_28:=by
   intro t50 h_28 z;rw[e29] at z;refine oA 41 (.bool t50) (oV [(0,t0),(3,t3),(5,v5),(9,.int .i64 t13),(41,.bool t50)] (n23 ?_));obtain⟨k31,e31,z⟩:=lS z
   have J31:∀(h_32:AHeap),k31 h_32=some (rR,hR)→Go w0 m0 (Func.ntmps Try.f26) (K10 .normal) [] [] h_32:=by
    intro h_32 z;rw[e31] at z;exact gW _ (J16 _ z)
   cases t50 with
   |true=>
    exact oT z fun z=>oZ (gW _ (J31 _ z))
   |false=>
    refine oU z fun z=>oG fun n33=>W.r (oF 52 33 15 z fun t52 z=>oLi 53 3 z fun t53 z=>oA 54 (.int .i64 t13) (oI 55 .i64 z fun t55 z=>oB 56 z fun t56 z=>oA 51 (.bool t56) (oV [(0,t0),(3,t3),(5,v5),(51,.bool t56)] (n33 ?_))))
    cases t56 with
    |true=>
     exact oT z fun z=>W.r (oA 57 t3 (oC0 58 z fun t58 z=>oF 59 33 19 z fun t59 z=>oW 26 (.int .i64 221) z fun h_41 z=>oV [] (gW _ (J31 _ z))))
    |false=>
     refine oU z fun z=>oG fun n43=>W.r (oA 14 t3 (oF 15 33 15 z fun t15 z=>oLi 16 3 z fun t16 z=>oC0 17 z fun t17 z=>oF 18 33 15 z fun t18 z=>oW 3 (.int .i64 t16) z fun h_49 z=>oV [(0,t0),(5,v5)] (n43 (oG fun n51=>y15 (by kernel_rfl) (hc.ok w0) (plan:=[0,1,2,3,4,5,6,7,8,9,10,11,12,13,14]) (by kernel_rfl) (by kernel_rfl) (by kernel_rfl) (WD.a 0 (some 19) t0 h_49 ?_)))));obtain⟨t20,e52,z⟩:=oS z;refine WD.b 0 (some 20) t20 h_49 (nil_chk (h:=h_49) e52) ?_;obtain⟨t21,e53,z⟩:=oS z;refine WD.b 0 (some 21) t21 h_49 (field_ptr (P:=Pg) (h:=h_49) (s:=73) (f:=0) (by kernel_rfl) e53) ?_;obtain⟨v22,e54,z⟩:=oS z;refine WD.b 1 (some 22) v22 h_49 (load_cell (P:=Pg) (h:=h_49) (t:=67) (by kernel_rfl) e54) ?_;obtain⟨t23,e55,z⟩:=oS z;refine WD.b 0 (some 23) t23 h_49 (field_ptr (P:=Pg) (h:=h_49) (s:=33) (f:=13) (by kernel_rfl) e55) ?_
     replace z:=oS z;obtain⟨v24,e56,z⟩:=z
     replace z:=oS z;obtain⟨t24,c57,z⟩:=z
     have c57:=avInt_some c57;subst c57;refine WD.b 1 (some 24) (.int .i64 t24) h_49 (load_cell (P:=Pg) (h:=h_49) (t:=3) (by kernel_rfl) e56) ?_;obtain⟨t25,e58,z⟩:=oS z;refine WD.b 0 (some 25) t25 h_49 (field_ptr (P:=Pg) (h:=h_49) (s:=33) (f:=14) (by kernel_rfl) e58) ?_;obtain⟨t26,e59,z⟩:=oS z;refine WD.b 1 (some 26) (.agg t26) h_49 (load_row (P:=Pg) (h:=h_49) (t:=31) (by kernel_rfl) (by kernel_rfl) e59) ?_;obtain⟨t27,e60,z⟩:=oS z;refine WD.b 0 (some 27) t27 h_49 (field_ptr (P:=Pg) (h:=h_49) (s:=33) (f:=15) (by kernel_rfl) e60) ?_
     replace z:=oS z;obtain⟨v28,e61,z⟩:=z
     replace z:=oS z;obtain⟨t28,c62,z⟩:=z
     have c62:=avInt_some c62;subst c62;refine WD.b 1 (some 28) (.int .i64 t28) h_49 (load_cell (P:=Pg) (h:=h_49) (t:=3) (by kernel_rfl) e61) ?_;obtain⟨t29,e63,z⟩:=oS z;refine WD.b 0 (some 29) t29 h_49 (field_ptr (P:=Pg) (h:=h_49) (s:=33) (f:=12) (by kernel_rfl) e63) ?_
     replace z:=oS z;obtain⟨v30,e64,z⟩:=z
     replace z:=oS z;obtain⟨t30,c65,z⟩:=z
     have c65:=avStr_some c65;subst c65;refine WD.b 1 (some 30) (strA t30) h_49 (load_cell (P:=Pg) (h:=h_49) (t:=9) (by kernel_rfl) e64) ?_;obtain⟨t31,e66,z⟩:=oS z;refine WD.val (d:=(some 31)) (v:=.agg t31) (h':=h_49) (by kernel_rfl) (by kernel_rfl) (bld_ok (by kernel_rfl) e66) (k:=0) (by kernel_rfl) (fun e=>absurd e (by decide)) (by decide) ?_
     replace z:=callN_some z;obtain⟨r32,h_67,e68,z⟩:=z
     replace z:=oS z;obtain⟨t32,c69,z⟩:=z
     have c69:=avInt_some c69;subst c69;exact WD.call (d:=(some 32)) (by kernel_rfl) (by kernel_rfl) (by kernel_rfl) e68 (k:=2) (by kernel_rfl) (fun _=>(by kernel_rfl)) (by decide) (WD.a 0 (some 8) (.int .i64 t32) h_67 (WD.nil (gW [(8,.int .i64 t32)] (n51 (oY (q10 (q9 (lZ z [.tmp 8] [.int .i64 t32] (rT res_nil)))))))))
  cases t44 with
  |true=>
   replace z:=ifB_t z
   exact oF 46 33 15 z fun t46 z=>oLi 47 3 z fun t47 z=>oA 48 (.int .i64 t13) (oB 49 z fun t49 z=>oA 50 (.bool t49) (lW _ (J30 _ _ z)))
  |false=>
   replace z:=ifB_f z
   exact WL.o (some 46) (WL.o (some 47) (WL.o (some 48) (WL.o (some 49) (oA 50 (.bool false) (lW _ (J30 _ _ z))))))
noncomputable def gateway_Gateway_pull(call:CallF)(_:Nat)(_:AV)(t1:List AV)(t2:AV)(t3:AV)(h:AHeap):R:=outK (opBox h 33 (some (.agg t1))) fun v5 h_2=>callN (call 39 [t2] h_2) fun r11 h_5=>obind (avInt .i64 r11) fun t11=>obind (nilC t3) fun t12=>obind (fldP 11 t12) fun t13=>obind (stRow h_5 1 [.int .i64 t11] t13) fun h_10=>obind (fldP 10 v5) fun t19=>obind (ldCell h_10 t19) fun v20=>obind (avInt .i64 v20) fun t20=>callN (call 41 [t2,.int .i64 t20,.int .i64 64] h_10) fun r21 h_16=>obind (extT 0 r21) fun v22=>obind (avStr v22) fun t22=>obind (extT 1 r21) fun v23=>obind (avInt .i64 v23) fun t23=>obind (extT 2 r21) fun v24=>obind (avInt .i64 v24) fun t24=>obind (nilC t3) fun t25=>obind (fldP 12 t25) fun t26=>obind (stRow h_16 1 [strA t22] t26) fun h_26=>obind (nilC t3) fun t27=>obind (fldP 10 t27) fun t28=>obind (stRow h_26 1 [.int .i64 t23] t28) fun h_30=>obind (nilC t3) fun t29=>obind (fldP 20 t29) fun t30=>obind (stRow h_30 1 [.int .i64 t24] t30) fun h_34=>some (.ret (.int .i64 0),h_34)
theorem gateway_Gateway_pull_ok{call:CallF}(hc:SaysAll Pg call){n:Nat}{t0:AV}{t1:List AV}{t2:AV}{t3:AV}{h:AHeap}{rR:ARes}{hR:AHeap}(z:gateway_Gateway_pull call n t0 t1 t2 t3 h=some (rR,hR)):Says Pg 27 [t0,.agg t1,t2,t3] h rR hR:=by
 unfold gateway_Gateway_pull at z;exact sO Try.func27 fun w0 m0=>wW [(1,.agg t1),(2,t2),(3,t3)] (oG fun n1=>W.r (oK 5 z fun v5 h_2 z=>oA 8 (.int .i64 0) (oV [(2,t2),(3,t3),(5,v5)] (n1 (oG fun n4=>W.r (oA 9 t3 (oA 10 t2 (oCi hc 11 z fun t11 h_5 z=>oC0 12 z fun t12 z=>oF 13 33 11 z fun t13 z=>oW 3 (.int .i64 t11) z fun h_10 z=>oV [(2,t2),(3,t3),(5,v5)] (n4 (oG fun n12=>W.r (oA 15 t3 (oA 16 t3 (oA 17 t3 (oA 18 t2 (oF 19 33 10 z fun t19 z=>oLi 20 3 z fun t20 z=>oC hc (some 21) z fun r21 h_16 z=>oA 14 r21 (oEs 22 z fun t22 z=>oEi 23 z fun t23 z=>oEi 24 z fun t24 z=>oC0 25 z fun t25 z=>oF 26 33 12 z fun t26 z=>oW 9 (strA t22) z fun h_26 z=>oC0 27 z fun t27 z=>oF 28 33 10 z fun t28 z=>oW 3 (.int .i64 t23) z fun h_30 z=>oC0 29 z fun t29 z=>oF 30 33 19 z fun t30 z=>oW 26 (.int .i64 t24) z fun h_34 z=>oV [] (n12 (oG fun n36=>W.r (oA 8 (.int .i64 0) (oV [(8,.int .i64 0)] (n36 (oY (lZ z [.tmp 8] [.int .i64 0] (rT res_nil))))))))))))))))))))))))
noncomputable def gateway_Gateway_Taken(call:CallF)(_:Nat)(t0:AV)(h:AHeap):R:=outK (opBin Pg h .eql 25 true (some t0) (some AV.nilp)) fun v4 h_4=>obind (avBool v4) fun t4=>ifB t4 (some (.ret (AV.fn 43 [] []),h_4)) (obind (nilC t0) fun t6=>obind (fldP 0 t6) fun t7=>obind (ldCell h_4 t7) fun v8=>callN (call 44 [v8] h_4) fun r9 h_12=>some (.ret (r9),h_12))
theorem gateway_Gateway_Taken_ok{call:CallF}(hc:SaysAll Pg call){n:Nat}{t0:AV}{h:AHeap}{rR:ARes}{hR:AHeap}(z:gateway_Gateway_Taken call n t0 h=some (rR,hR)):Says Pg 31 [t0] h rR hR:=by
 unfold gateway_Gateway_Taken at z;refine sO Try.func31 fun w0 m0=>wW [(0,t0)] (oG fun n1=>W.r (oA 2 AV.nfn (oV [(0,t0)] (n1 (oH fun n2 q2=>oG fun n3=>W.r (oA 3 t0 ?_))))))
 replace z:=outK_some z;obtain⟨v4,h_4,e5,z⟩:=z
 replace z:=oS z;obtain⟨t4,c6,z⟩:=z
 have c6:=avBool_some c6;subst c6;refine WL.b (some 4) (.bool t4) h_4 e5 (oV [(0,t0),(4,.bool t4)] (n3 ?_))
 cases t4 with
 |true=>
  exact oT z fun z=>oG fun n7=>W.r (oA 2 (AV.fn 43 [] []) (oV [(2,(AV.fn 43 [] []))] (n7 (oY (q2 (lZ z [.tmp 2] [(AV.fn 43 [] [])] (rT res_nil)))))))
 |false=>
  exact oU z fun z=>oZ (n2 (oG fun n8=>W.r (oA 5 t0 (oC0 6 z fun t6 z=>oF 7 73 0 z fun t7 z=>oL 8 67 z fun v8 z=>oC hc (some 9) z fun r9 h_12 z=>oA 2 r9 (oV [(2,r9)] (n8 (oY (lZ z [.tmp 2] [r9] (rT res_nil)))))))))
noncomputable def ring_Ring_End(_:CallF)(_:Nat)(t0:AV)(h:AHeap):R:=outK (opBin Pg h .eql 38 true (some t0) (some AV.nilp)) fun v4 h_4=>obind (avBool v4) fun t4=>ifB t4 (some (.ret (.int .i64 0),h_4)) (obind (nilC t0) fun t6=>obind (fldP 1 t6) fun t7=>obind (ldCell h_4 t7) fun v8=>obind (avInt .i64 v8) fun t8=>some (.ret (.int .i64 t8),h_4))
theorem ring_Ring_End_ok{call:CallF}(_:SaysAll Pg call){n:Nat}{t0:AV}{h:AHeap}{rR:ARes}{hR:AHeap}(z:ring_Ring_End call n t0 h=some (rR,hR)):Says Pg 39 [t0] h rR hR:=by
 unfold ring_Ring_End at z;refine sO Try.func39 fun w0 m0=>wW [(0,t0)] (oG fun n1=>W.r (oA 2 (.int .i64 0) (oV [(0,t0)] (n1 (oH fun n2 q2=>oG fun n3=>W.r (oA 3 t0 ?_))))))
 replace z:=outK_some z;obtain⟨v4,h_4,e5,z⟩:=z
 replace z:=oS z;obtain⟨t4,c6,z⟩:=z
 have c6:=avBool_some c6;subst c6;refine WL.b (some 4) (.bool t4) h_4 e5 (oV [(0,t0),(4,.bool t4)] (n3 ?_))
 cases t4 with
 |true=>
  exact oT z fun z=>oG fun n7=>W.r (oA 2 (.int .i64 0) (oV [(2,.int .i64 0)] (n7 (oY (q2 (lZ z [.tmp 2] [.int .i64 0] (rT res_nil)))))))
 |false=>
  exact oU z fun z=>oZ (n2 (oG fun n8=>W.r (oA 5 t0 (oC0 6 z fun t6 z=>oF 7 82 1 z fun t7 z=>oLi 8 3 z fun t8 z=>oA 2 (.int .i64 t8) (oV [(2,.int .i64 t8)] (n8 (oY (lZ z [.tmp 2] [.int .i64 t8] (rT res_nil)))))))))
noncomputable def ring_Ring_From(call:CallF)(_:Nat)(t0:AV)(t1:Int)(t2:Int)(h:AHeap):R:=
 outK (opBin Pg h .eql 38 true (some t0) (some AV.nilp)) fun v12 h_4=>
 obind (avBool v12) fun t12=>
 ifB t12
 (
  some (.ret (.tup [strA ([]:Bytes),.int .i64 0,.int .i64 1]),h_4))
 (
  obind (nilC t0) fun t15=>
  obind (fldP 1 t15) fun t16=>
  obind (ldCell h_4 t16) fun v17=>
  obind (avInt .i64 v17) fun t17=>
  lett (decide (t1>t17)) fun (t18:Bool)=>
  lett (fun (t22:Bool) (h_15:AHeap)=>
   ifB t22
   (
    some (.ret (.tup [strA ([]:Bytes),.int .i64 0,.int .i64 5]),h_15))
   (
    callN (call 54 [t0] h_15) fun r25 h_20=>
    obind (avInt .i64 r25) fun t25=>
    lett (if t25>t1 then t25 else t1) fun (t26:Int)=>
    obind (nilC t0) fun t29=>
    obind (fldP 1 t29) fun t30=>
    obind (ldCell h_20 t30) fun v31=>
    obind (avInt .i64 v31) fun t31=>
    lett (IntKind.i64.wrap (t31 - t26)) fun (t33:Int)=>
    lett (if t33<t2 then t33 else t2) fun (t34:Int)=>
    outK (opMakeSlice Pg h_20 58 (some (.int .i64 t34)) (some (.int .i64 t34))) fun v35 h_31=>
    obind (nilC t0) fun t38=>
    obind (fldP 2 t38) fun t39=>
    obind (nilC t0) fun t42=>
    obind (fldP 0 t42) fun t43=>
    obind (ldCell h_31 t43) fun v44=>
    obind (avInt .i64 v44) fun t44=>
    obind (remI .i64 t26 t44) fun t45=>
    obind (nilC t0) fun t47=>
    obind (fldP 0 t47) fun t48=>
    obind (ldCell h_31 t48) fun v49=>
    obind (avInt .i64 v49) fun t49=>
    outK (sliceA Pg h_31 80 t39 (some (.int .i64 t45)) (some (.int .i64 t49))) fun v50 h_45=>
    outK (opCopy Pg h_45 58 v35 v50) fun v51 h_47=>
    obind (avInt .i64 v51) fun t51=>
    outK (sliceA Pg h_47 58 v35 (some (.int .i64 t51)) none) fun v54 h_51=>
    obind (nilC t0) fun t56=>
    obind (fldP 2 t56) fun t57=>
    outK (sliceA Pg h_51 80 t57 none none) fun v58 h_55=>
    outK (opCopy Pg h_55 58 v54 v58) fun v59 h_57=>
    obind (avInt .i64 v59) fun _=>
    outK (opConv Pg h_57 58 9 (some v35)) fun v61 h_61=>
    obind (avStr v61) fun t61=>
    some (.ret (.tup [strA t61,.int .i64 t26,.int .i64 0]),h_61))) fun j22=>
  ifB t18
  (
   j22 true h_4)
  (
   lett (decide (t2<0)) fun (t21:Bool)=>
   j22 t21 h_4))
theorem ring_Ring_From_ok{call:CallF}(hc:SaysAll Pg call){n:Nat}{t0:AV}{t1:Int}{t2:Int}{h:AHeap}{rR:ARes}{hR:AHeap}(z:ring_Ring_From call n t0 t1 t2 h=some (rR,hR)):Says Pg 41 [t0,.int .i64 t1,.int .i64 t2] h rR hR:=by
 unfold ring_Ring_From at z;refine sO Try.func41 fun w0 m0=>wW [(0,t0),(1,.int .i64 t1),(2,.int .i64 t2)] (oG fun n1=>W.r (oA 6 (strA ([]:Bytes)) (oA 7 (.int .i64 0) (oA 8 (.int .i64 0) (oV [(0,t0),(1,.int .i64 t1),(2,.int .i64 t2)] (n1 (oH fun n2 q2=>oG fun n3=>W.r (oA 11 t0 ?_))))))))
 replace z:=outK_some z;obtain⟨v12,h_4,e5,z⟩:=z
 replace z:=oS z;obtain⟨t12,c6,z⟩:=z
 have c6:=avBool_some c6;subst c6;refine WL.b (some 12) (.bool t12) h_4 e5 (oV [(0,t0),(1,.int .i64 t1),(2,.int .i64 t2),(12,.bool t12)] (n3 ?_))
 cases t12 with
 |true=>
  exact oT z fun z=>oG fun n7=>W.r (oA 6 (strA ([]:Bytes)) (oA 7 (.int .i64 0) (oA 8 (.int .i64 1) (oV [(6,strA ([]:Bytes)),(7,.int .i64 0),(8,.int .i64 1)] (n7 (oY (q2 (lZ z [.tmp 6,.tmp 7,.tmp 8] [strA ([]:Bytes),.int .i64 0,.int .i64 1] (rT (rT (rT res_nil)))))))))))
 |false=>
  refine oU z fun z=>oZ (n2 (oH fun n8 q8=>W.s (fun K9 n9 _ _ _=>W.r (oA 13 (.int .i64 t1) (oA 14 t0 (oC0 15 z fun t15 z=>oF 16 82 1 z fun t16 z=>oLi 17 3 z fun t17 z=>oB 18 z fun t18 z=>oA 19 (.bool t18) ?_))))));obtain⟨j22,e16,z⟩:=lS z
  have J17:∀(t22:Bool) (h_15:AHeap),j22 t22 h_15=some (rR,hR)→WL Pg w0 m0 (Func.ntmps Try.f41) (Code.ops (y6 (y6 (y3 (y3 (codeOf Try.f41)))))) 10 K9 [(0,t0),(1,.int .i64 t1),(2,.int .i64 t2),(22,.bool t22)] [] h_15:=by
   intro t22 h_15 z;rw[e16] at z;refine oV [(0,t0),(1,.int .i64 t1),(2,.int .i64 t2),(22,.bool t22)] (n9 ?_)
   cases t22 with
   |true=>
    exact oT z fun z=>oG fun n18=>W.r (oA 6 (strA ([]:Bytes)) (oA 7 (.int .i64 0) (oA 8 (.int .i64 5) (oV [(6,strA ([]:Bytes)),(7,.int .i64 0),(8,.int .i64 5)] (n18 (oY (q8 (lZ z [.tmp 6,.tmp 7,.tmp 8] [strA ([]:Bytes),.int .i64 0,.int .i64 5] (rT (rT (rT res_nil)))))))))))
   |false=>
    refine oU z fun z=>oZ (n8 (oG fun n19=>W.r (oA 23 (.int .i64 t1) (oA 24 t0 (oCi hc 25 z fun t25 h_20 z=>oI 26 .i64 z fun t26 z=>oA 1 (.int .i64 t26) (oV [(0,t0),(1,.int .i64 t26),(2,.int .i64 t2)] (n19 (oG fun n24=>W.r (oA 27 (.int .i64 t2) (oA 28 t0 (oC0 29 z fun t29 z=>oF 30 82 1 z fun t30 z=>oLi 31 3 z fun t31 z=>oA 32 (.int .i64 t26) (oI 33 .i64 z fun t33 z=>oI 34 .i64 z fun t34 z=>oK 35 z fun v35 h_31 z=>oA 9 v35 (oV [(0,t0),(1,.int .i64 t26),(9,v35)] (n24 (oG fun n33=>y15 (by kernel_rfl) (hc.ok w0) (plan:=[0,1,2,3,4,5,6,7,8,9,10,11,12,13,14,15,16]) (by kernel_rfl) (by kernel_rfl) (by kernel_rfl) (WD.a 0 (some 36) v35 h_31 (WD.a 0 (some 37) t0 h_31 ?_)))))))))))))))));obtain⟨t38,e34,z⟩:=oS z;refine WD.b 0 (some 38) t38 h_31 (nil_chk (h:=h_31) e34) ?_;obtain⟨t39,e35,z⟩:=oS z;refine WD.b 0 (some 39) t39 h_31 (field_ptr (P:=Pg) (h:=h_31) (s:=82) (f:=2) (by kernel_rfl) e35) (WD.a 0 (some 40) (.int .i64 t26) h_31 (WD.a 0 (some 41) t0 h_31 ?_));obtain⟨t42,e36,z⟩:=oS z;refine WD.b 0 (some 42) t42 h_31 (nil_chk (h:=h_31) e36) ?_;obtain⟨t43,e37,z⟩:=oS z;refine WD.b 0 (some 43) t43 h_31 (field_ptr (P:=Pg) (h:=h_31) (s:=82) (f:=0) (by kernel_rfl) e37) ?_
    replace z:=oS z;obtain⟨v44,e38,z⟩:=z
    replace z:=oS z;obtain⟨t44,c39,z⟩:=z
    have c39:=avInt_some c39;subst c39;refine WD.b 1 (some 44) (.int .i64 t44) h_31 (load_cell (P:=Pg) (h:=h_31) (t:=3) (by kernel_rfl) e38) ?_;obtain⟨t45,e40,z⟩:=oS z;refine WD.b 0 (some 45) (.int .i64 t45) h_31 (rem_int (P:=Pg) (h:=h_31) (t:=3) (lit:=false) e40) (WD.a 0 (some 46) t0 h_31 ?_);obtain⟨t47,e41,z⟩:=oS z;refine WD.b 0 (some 47) t47 h_31 (nil_chk (h:=h_31) e41) ?_;obtain⟨t48,e42,z⟩:=oS z;refine WD.b 0 (some 48) t48 h_31 (field_ptr (P:=Pg) (h:=h_31) (s:=82) (f:=0) (by kernel_rfl) e42) ?_
    replace z:=oS z;obtain⟨v49,e43,z⟩:=z
    replace z:=oS z;obtain⟨t49,c44,z⟩:=z
    have c44:=avInt_some c44;subst c44;refine WD.b 1 (some 49) (.int .i64 t49) h_31 (load_cell (P:=Pg) (h:=h_31) (t:=3) (by kernel_rfl) e43) ?_;obtain⟨v50,h_45,e46,z⟩:=outK_some z;refine WD.val (d:=(some 50)) (v:=v50) (h':=h_45) (by kernel_rfl) (by kernel_rfl) (Eq.trans (by kernel_rfl) e46) (k:=2) (by kernel_rfl) (fun _=>(by kernel_rfl)) (by decide) ?_
    replace z:=outK_some z;obtain⟨v51,h_47,e48,z⟩:=z
    replace z:=oS z;obtain⟨t51,c49,z⟩:=z
    have c49:=avInt_some c49;subst c49;refine WD.val (d:=(some 51)) (v:=.int .i64 t51) (h':=h_47) (by kernel_rfl) (by kernel_rfl) (Eq.trans (by kernel_rfl) e48) (k:=2) (by kernel_rfl) (fun _=>(by kernel_rfl)) (by decide) (WD.a 0 (some 10) (.int .i64 t51) h_47 (WD.nil (gW [(0,t0),(1,.int .i64 t26),(9,v35),(10,.int .i64 t51)] (n33 (oG fun n50=>y15 (by kernel_rfl) (hc.ok w0) (plan:=[0,1,2,3,4,5,6,7]) (by kernel_rfl) (by kernel_rfl) (by kernel_rfl) (WD.a 0 (some 52) v35 h_47 (WD.a 0 (some 53) (.int .i64 t51) h_47 ?_)))))));obtain⟨v54,h_51,e52,z⟩:=outK_some z;refine WD.b 0 (some 54) v54 h_51 e52 (WD.a 0 (some 55) t0 h_51 ?_);obtain⟨t56,e53,z⟩:=oS z;refine WD.b 0 (some 56) t56 h_51 (nil_chk (h:=h_51) e53) ?_;obtain⟨t57,e54,z⟩:=oS z;refine WD.b 0 (some 57) t57 h_51 (field_ptr (P:=Pg) (h:=h_51) (s:=82) (f:=2) (by kernel_rfl) e54) ?_;obtain⟨v58,h_55,e56,z⟩:=outK_some z;refine WD.val (d:=(some 58)) (v:=v58) (h':=h_55) (by kernel_rfl) (by kernel_rfl) (Eq.trans (by kernel_rfl) e56) (k:=2) (by kernel_rfl) (fun _=>(by kernel_rfl)) (by decide) ?_
    replace z:=outK_some z;obtain⟨v59,h_57,e58,z⟩:=z
    replace z:=oS z;obtain⟨t59,c59,z⟩:=z
    have c59:=avInt_some c59;subst c59;refine WD.val (d:=(some 59)) (v:=.int .i64 t59) (h':=h_57) (by kernel_rfl) (by kernel_rfl) (Eq.trans (by kernel_rfl) e58) (k:=2) (by kernel_rfl) (fun _=>(by kernel_rfl)) (by decide) (WD.nil (gW [(1,.int .i64 t26),(9,v35)] (n50 (oG fun n60=>W.r (oA 60 v35 ?_)))))
    replace z:=outK_some z;obtain⟨v61,h_61,e62,z⟩:=z
    replace z:=oS z;obtain⟨t61,c63,z⟩:=z
    have c63:=avStr_some c63;subst c63;exact WL.b (some 61) (strA t61) h_61 e62 (oA 62 (.int .i64 t26) (oA 6 (strA t61) (oA 7 (.int .i64 t26) (oA 8 (.int .i64 0) (oV [(6,strA t61),(7,.int .i64 t26),(8,.int .i64 0)] (n60 (oY (lZ z [.tmp 6,.tmp 7,.tmp 8] [strA t61,.int .i64 t26,.int .i64 0] (rT (rT (rT res_nil)))))))))))
  cases t18 with
  |true=>
   replace z:=ifB_t z
   exact WL.o (some 20) (WL.o (some 21) (oA 22 (.bool true) (lW _ (J17 _ _ z))))
  |false=>
   replace z:=ifB_f z
   exact oA 20 (.int .i64 t2) (oB 21 z fun t21 z=>oA 22 (.bool t21) (lW _ (J17 _ _ z)))
noncomputable def ring_Ring_First(_:CallF)(_:Nat)(t0:AV)(h:AHeap):R:=
 outK (opBin Pg h .eql 38 true (some t0) (some AV.nilp)) fun v4 h_4=>
 obind (avBool v4) fun t4=>
 ifB t4
 (
  some (.ret (.int .i64 0),h_4))
 (
  obind (nilC t0) fun t6=>
  obind (fldP 1 t6) fun t7=>
  obind (ldCell h_4 t7) fun v8=>
  obind (avInt .i64 v8) fun t8=>
  obind (nilC t0) fun t10=>
  obind (fldP 0 t10) fun t11=>
  obind (ldCell h_4 t11) fun v12=>
  obind (avInt .i64 v12) fun t12=>
  lett (IntKind.i64.wrap (t8 - t12)) fun (t13:Int)=>
  lett (if 0>t13 then 0 else t13) fun (t14:Int)=>
  some (.ret (.int .i64 t14),h_4))
theorem ring_Ring_First_ok{call:CallF}(hc:SaysAll Pg call){n:Nat}{t0:AV}{h:AHeap}{rR:ARes}{hR:AHeap}(z:ring_Ring_First call n t0 h=some (rR,hR)):Says Pg 54 [t0] h rR hR:=by
 unfold ring_Ring_First at z;refine sO Try.func54 fun w0 m0=>wW [(0,t0)] (oG fun n1=>W.r (oA 2 (.int .i64 0) (oV [(0,t0)] (n1 (oH fun n2 q2=>oG fun n3=>W.r (oA 3 t0 ?_))))))
 replace z:=outK_some z;obtain⟨v4,h_4,e5,z⟩:=z
 replace z:=oS z;obtain⟨t4,c6,z⟩:=z
 have c6:=avBool_some c6;subst c6;refine WL.b (some 4) (.bool t4) h_4 e5 (oV [(0,t0),(4,.bool t4)] (n3 ?_))
 cases t4 with
 |true=>
  exact oT z fun z=>oG fun n7=>W.r (oA 2 (.int .i64 0) (oV [(2,.int .i64 0)] (n7 (oY (q2 (lZ z [.tmp 2] [.int .i64 0] (rT res_nil)))))))
 |false=>
  refine oU z fun z=>oZ (n2 (oG fun n8=>y15 (by kernel_rfl) (hc.ok w0) (plan:=[0,1,2,3,4,5,6,7,8,9,10]) (by kernel_rfl) (by kernel_rfl) (by kernel_rfl) (WD.a 0 (some 5) t0 h_4 ?_)));obtain⟨t6,e9,z⟩:=oS z;refine WD.b 0 (some 6) t6 h_4 (nil_chk (h:=h_4) e9) ?_;obtain⟨t7,e10,z⟩:=oS z;refine WD.b 0 (some 7) t7 h_4 (field_ptr (P:=Pg) (h:=h_4) (s:=82) (f:=1) (by kernel_rfl) e10) ?_
  replace z:=oS z;obtain⟨v8,e11,z⟩:=z
  replace z:=oS z;obtain⟨t8,c12,z⟩:=z
  have c12:=avInt_some c12;subst c12;refine WD.b 1 (some 8) (.int .i64 t8) h_4 (load_cell (P:=Pg) (h:=h_4) (t:=3) (by kernel_rfl) e11) (WD.a 0 (some 9) t0 h_4 ?_);obtain⟨t10,e13,z⟩:=oS z;refine WD.b 0 (some 10) t10 h_4 (nil_chk (h:=h_4) e13) ?_;obtain⟨t11,e14,z⟩:=oS z;refine WD.b 0 (some 11) t11 h_4 (field_ptr (P:=Pg) (h:=h_4) (s:=82) (f:=0) (by kernel_rfl) e14) ?_
  replace z:=oS z;obtain⟨v12,e15,z⟩:=z
  replace z:=oS z;obtain⟨t12,c16,z⟩:=z
  have c16:=avInt_some c16;subst c16;refine WD.b 1 (some 12) (.int .i64 t12) h_4 (load_cell (P:=Pg) (h:=h_4) (t:=3) (by kernel_rfl) e15) ?_;obtain⟨t13,e17,z⟩:=lS z;refine WD.val (d:=(some 13)) (v:=.int .i64 t13) (h':=h_4) (by kernel_rfl) (by kernel_rfl) (val_of (AV.int .i64) e17 (by kernel_rfl)) (k:=0) (by kernel_rfl) (fun e=>absurd e (by decide)) (by decide) ?_;obtain⟨t14,e18,z⟩:=lS z;exact WD.val (d:=(some 14)) (v:=.int .i64 t14) (h':=h_4) (by kernel_rfl) (by kernel_rfl) (val_of (AV.int .i64) e18 (by kernel_rfl)) (k:=0) (by kernel_rfl) (fun e=>absurd e (by decide)) (by decide) (WD.a 0 (some 2) (.int .i64 t14) h_4 (WD.nil (gW [(2,.int .i64 t14)] (n8 (oY (lZ z [.tmp 2] [.int .i64 t14] (rT res_nil)))))))
noncomputable def worldF(n:Nat)(call:CallF):CallF:=callOf [(6,gcF (fn0 (disk_New call n))),(53,fn3 Dv (Di .i64) Ds (disk_Disk_Append call n)),(22,fn2 Dv (Di .i64) (disk_Disk_Sync call n)),(34,fn3 Dv (Di .i64) (Di .i64) (disk_Disk_Cut call n)),(17,fn2 Dv (Di .i64) (disk_Disk_Power call n)),(50,fn1 Dv (disk_Disk_On call n)),(36,fn2 Dv (Di .i64) (disk_Disk_refuses call n)),(49,fn3 Dv (Di .i64) Da (disk_Disk_change call n)),(37,fn2 Dv Dv (disk_content_do call n)),(38,fn1 Dv (disk_Disk_step call n)),(35,gcF (fn1 (Di .i64) (disk_isFile call n))),(32,fn2 Dv (Di .i64) (disk_Disk_Read call n)),(21,fn2 Dv (Di .i64) (disk_Disk_Loose call n)),(14,fn3 Dv Dv (Di .i64) (disk_Disk_Crash call n)),(30,fn3 Dv (Di .i64) (Di .i64) (disk_file_crash call n)),(42,fn1 Dv (disk_content_copy call n)),(55,fn1 Dv (slices_Clone___byte_byte_ call n)),(79,gcF (fn2 (Di .u32) Ds (sum_More call n))),(78,gcF (fn1 Ds (sum_Of call n))),(76,gcF (fn1 Ds (frame_summed call n))),(68,gcF (fn1 Ds (frame_whole call n))),(66,gcF (fn1 Ds (frame_Put call n))),(58,gcF (fn1 Ds (frame_Take call n))),(45,fn1 Ds (frame_All call n)),(77,gcF (fn1 (Di .u32) (wire_U32 call n))),(64,gcF (fn1 (Di .u64) (wire_U64 call n))),(59,gcF (fn1 Ds (wire_New call n))),(74,gcF (fn2 (Di .u64) (Di .i64) (wire_number call n))),(75,gcF (fn1 Ds (wire_length call n))),(65,gcF (fn1 Ds (wire_Text call n))),(67,fn1 Dv (wire_Reader_U32 call n)),(60,fn1 Dv (wire_Reader_U64 call n)),(62,fn1 Dv (wire_Reader_End call n)),(73,fn1 Dv (wire_Reader_Fault call n)),(69,fn2 Dv (Di .i64) (wire_Reader_number call n)),(72,fn1 Dv (wire_Reader_whole call n)),(71,fn3 Dv (Di .i64) (Di .i64) (wire_Reader_fail call n)),(70,fn2 Dv (Di .i64) (wire_Reader_head call n)),(61,fn2 Dv (Di .i64) (wire_Reader_Text call n)),(51,gcF (fn1 Da (journal_Check call n))),(63,gcF (fn1 Da (journal_numbers call n))),(29,fn2 Dv (Di .i64) (journal_Journal_Next call n)),(40,fn2 Dv Da (journal_Journal_Add call n)),(47,fn2 Dv Da (journal_Journal_refuses call n)),(48,fn2 Dv Da (journal_Journal_put call n)),(44,fn1 Dv (journal_Journal_All call n)),(52,gcF (fn1 Da (journal_framed call n))),(46,gcF (fn1 Ds (journal_sendOf call n))),(19,gcF (fn2 Da Da (message_Above call n))),(13,fn2 Dv (Di .i64) (gateway_Gateway_Right call n)),(8,fn3 Dv Da Dv (gateway_Gateway_Do call n)),(23,gcF (fn1 Da (gateway_isRight call n))),(24,fn4 Dv Da Dv Dv (gateway_Gateway_fenced call n)),(25,fn4 Dv Da Dv Dv (gateway_Gateway_attach call n)),(26,fn4 Dv Da Dv Dv (gateway_Gateway_send call n)),(27,fn4 Dv Da Dv Dv (gateway_Gateway_pull call n)),(31,fn1 Dv (gateway_Gateway_Taken call n)),(39,fn1 Dv (ring_Ring_End call n)),(41,fn3 Dv (Di .i64) (Di .i64) (ring_Ring_From call n)),(54,fn1 Dv (ring_Ring_First call n))]
set_option maxRecDepth 20000 in
theorem worldF_ok(n:Nat)(call:CallF)(hc:SaysAll Try.prog call):SaysAll Try.prog (worldF n call):=(callOf_cons (gcF_holds (fn0_holds (disk_New_ok hc)))
 (callOf_cons (fn3_holds Dv (Di .i64) Ds (disk_Disk_Append_ok hc))
 (callOf_cons (fn2_holds Dv (Di .i64) (disk_Disk_Sync_ok hc))
 (callOf_cons (fn3_holds Dv (Di .i64) (Di .i64) (disk_Disk_Cut_ok hc))
 (callOf_cons (fn2_holds Dv (Di .i64) (disk_Disk_Power_ok hc))
 (callOf_cons (fn1_holds Dv (disk_Disk_On_ok hc))
 (callOf_cons (fn2_holds Dv (Di .i64) (disk_Disk_refuses_ok hc))
 (callOf_cons (fn3_holds Dv (Di .i64) Da (disk_Disk_change_ok hc))
 (callOf_cons (fn2_holds Dv Dv (disk_content_do_ok hc))
 (callOf_cons (fn1_holds Dv (disk_Disk_step_ok hc))
 (callOf_cons (gcF_holds (fn1_holds (Di .i64) (disk_isFile_ok hc)))
 (callOf_cons (fn2_holds Dv (Di .i64) (disk_Disk_Read_ok hc))
 (callOf_cons (fn2_holds Dv (Di .i64) (disk_Disk_Loose_ok hc))
 (callOf_cons (fn3_holds Dv Dv (Di .i64) (disk_Disk_Crash_ok hc))
 (callOf_cons (fn3_holds Dv (Di .i64) (Di .i64) (disk_file_crash_ok hc))
 (callOf_cons (fn1_holds Dv (disk_content_copy_ok hc))
 (callOf_cons (fn1_holds Dv (slices_Clone___byte_byte__ok hc))
 (callOf_cons (gcF_holds (fn2_holds (Di .u32) Ds (sum_More_ok hc)))
 (callOf_cons (gcF_holds (fn1_holds Ds (sum_Of_ok hc)))
 (callOf_cons (gcF_holds (fn1_holds Ds (frame_summed_ok hc)))
 (callOf_cons (gcF_holds (fn1_holds Ds (frame_whole_ok hc)))
 (callOf_cons (gcF_holds (fn1_holds Ds (frame_Put_ok hc)))
 (callOf_cons (gcF_holds (fn1_holds Ds (frame_Take_ok hc)))
 (callOf_cons (fn1_holds Ds (frame_All_ok hc))
 (callOf_cons (gcF_holds (fn1_holds (Di .u32) (wire_U32_ok hc)))
 (callOf_cons (gcF_holds (fn1_holds (Di .u64) (wire_U64_ok hc)))
 (callOf_cons (gcF_holds (fn1_holds Ds (wire_New_ok hc)))
 (callOf_cons (gcF_holds (fn2_holds (Di .u64) (Di .i64) (wire_number_ok hc)))
 (callOf_cons (gcF_holds (fn1_holds Ds (wire_length_ok hc)))
 (callOf_cons (gcF_holds (fn1_holds Ds (wire_Text_ok hc)))
 (callOf_cons (fn1_holds Dv (wire_Reader_U32_ok hc))
 (callOf_cons (fn1_holds Dv (wire_Reader_U64_ok hc))
 (callOf_cons (fn1_holds Dv (wire_Reader_End_ok hc))
 (callOf_cons (fn1_holds Dv (wire_Reader_Fault_ok hc))
 (callOf_cons (fn2_holds Dv (Di .i64) (wire_Reader_number_ok hc))
 (callOf_cons (fn1_holds Dv (wire_Reader_whole_ok hc))
 (callOf_cons (fn3_holds Dv (Di .i64) (Di .i64) (wire_Reader_fail_ok hc))
 (callOf_cons (fn2_holds Dv (Di .i64) (wire_Reader_head_ok hc))
 (callOf_cons (fn2_holds Dv (Di .i64) (wire_Reader_Text_ok hc))
 (callOf_cons (gcF_holds (fn1_holds Da (journal_Check_ok hc)))
 (callOf_cons (gcF_holds (fn1_holds Da (journal_numbers_ok hc)))
 (callOf_cons (fn2_holds Dv (Di .i64) (journal_Journal_Next_ok hc))
 (callOf_cons (fn2_holds Dv Da (journal_Journal_Add_ok hc))
 (callOf_cons (fn2_holds Dv Da (journal_Journal_refuses_ok hc))
 (callOf_cons (fn2_holds Dv Da (journal_Journal_put_ok hc))
 (callOf_cons (fn1_holds Dv (journal_Journal_All_ok hc))
 (callOf_cons (gcF_holds (fn1_holds Da (journal_framed_ok hc)))
 (callOf_cons (gcF_holds (fn1_holds Ds (journal_sendOf_ok hc)))
 (callOf_cons (gcF_holds (fn2_holds Da Da (message_Above_ok hc)))
 (callOf_cons (fn2_holds Dv (Di .i64) (gateway_Gateway_Right_ok hc))
 (callOf_cons (fn3_holds Dv Da Dv (gateway_Gateway_Do_ok hc))
 (callOf_cons (gcF_holds (fn1_holds Da (gateway_isRight_ok hc)))
 (callOf_cons (fn4_holds Dv Da Dv Dv (gateway_Gateway_fenced_ok hc))
 (callOf_cons (fn4_holds Dv Da Dv Dv (gateway_Gateway_attach_ok hc))
 (callOf_cons (fn4_holds Dv Da Dv Dv (gateway_Gateway_send_ok hc))
 (callOf_cons (fn4_holds Dv Da Dv Dv (gateway_Gateway_pull_ok hc))
 (callOf_cons (fn1_holds Dv (gateway_Gateway_Taken_ok hc))
 (callOf_cons (fn1_holds Dv (ring_Ring_End_ok hc))
 (callOf_cons (fn3_holds Dv (Di .i64) (Di .i64) (ring_Ring_From_ok hc))
 (callOf_cons (fn1_holds Dv (ring_Ring_First_ok hc))
 callOf_nil))))))))))))))))))))))))))))))))))))))))))))))))))))))))))))
noncomputable def world(n d:Nat):CallF:=iterW (worldF n) d
theorem world_ok(n d:Nat):SaysAll Try.prog (world n d):=iterW_ok (worldF_ok n) d
theorem w_disk_New(n d:Nat)(h:AHeap):world n (d+1) 6 [] h=gcR h (disk_New (world n d) n h):=
 Eq.trans (b:=gcR h (fn0 (disk_New (world n d) n) [] h)) (by kernel_rfl) (congrArg (gcR h) (fn0_eq _ h))
theorem w_disk_Disk_Append(n d:Nat)(t0:AV)(t1:Int)(t2:Bytes)(h:AHeap):world n (d+1) 53 [t0,.int .i64 t1,strA t2] h=disk_Disk_Append (world n d) n t0 t1 t2 h:=
 Eq.trans (b:=fn3 Dv (Di .i64) Ds (disk_Disk_Append (world n d) n) [t0,.int .i64 t1,strA t2] h) (by kernel_rfl) (fn3_eq Dv (Di .i64) Ds _ t0 t1 t2 h)
theorem w_disk_Disk_Sync(n d:Nat)(t0:AV)(t1:Int)(h:AHeap):world n (d+1) 22 [t0,.int .i64 t1] h=disk_Disk_Sync (world n d) n t0 t1 h:=
 Eq.trans (b:=fn2 Dv (Di .i64) (disk_Disk_Sync (world n d) n) [t0,.int .i64 t1] h) (by kernel_rfl) (fn2_eq Dv (Di .i64) _ t0 t1 h)
theorem w_disk_Disk_Cut(n d:Nat)(t0:AV)(t1:Int)(t2:Int)(h:AHeap):world n (d+1) 34 [t0,.int .i64 t1,.int .i64 t2] h=disk_Disk_Cut (world n d) n t0 t1 t2 h:=
 Eq.trans (b:=fn3 Dv (Di .i64) (Di .i64) (disk_Disk_Cut (world n d) n) [t0,.int .i64 t1,.int .i64 t2] h) (by kernel_rfl) (fn3_eq Dv (Di .i64) (Di .i64) _ t0 t1 t2 h)
theorem w_disk_Disk_Power(n d:Nat)(t0:AV)(t1:Int)(h:AHeap):world n (d+1) 17 [t0,.int .i64 t1] h=disk_Disk_Power (world n d) n t0 t1 h:=
 Eq.trans (b:=fn2 Dv (Di .i64) (disk_Disk_Power (world n d) n) [t0,.int .i64 t1] h) (by kernel_rfl) (fn2_eq Dv (Di .i64) _ t0 t1 h)
theorem w_disk_Disk_On(n d:Nat)(t0:AV)(h:AHeap):world n (d+1) 50 [t0] h=disk_Disk_On (world n d) n t0 h:=
 Eq.trans (b:=fn1 Dv (disk_Disk_On (world n d) n) [t0] h) (by kernel_rfl) (fn1_eq Dv _ t0 h)
theorem w_disk_Disk_refuses(n d:Nat)(t0:AV)(t1:Int)(h:AHeap):world n (d+1) 36 [t0,.int .i64 t1] h=disk_Disk_refuses (world n d) n t0 t1 h:=
 Eq.trans (b:=fn2 Dv (Di .i64) (disk_Disk_refuses (world n d) n) [t0,.int .i64 t1] h) (by kernel_rfl) (fn2_eq Dv (Di .i64) _ t0 t1 h)
theorem w_disk_Disk_change(n d:Nat)(t0:AV)(t1:Int)(t2:List AV)(h:AHeap):world n (d+1) 49 [t0,.int .i64 t1,.agg t2] h=disk_Disk_change (world n d) n t0 t1 t2 h:=
 Eq.trans (b:=fn3 Dv (Di .i64) Da (disk_Disk_change (world n d) n) [t0,.int .i64 t1,.agg t2] h) (by kernel_rfl) (fn3_eq Dv (Di .i64) Da _ t0 t1 t2 h)
theorem w_disk_content_do(n d:Nat)(t0:AV)(t1:AV)(h:AHeap):world n (d+1) 37 [t0,t1] h=disk_content_do (world n d) n t0 t1 h:=
 Eq.trans (b:=fn2 Dv Dv (disk_content_do (world n d) n) [t0,t1] h) (by kernel_rfl) (fn2_eq Dv Dv _ t0 t1 h)
theorem w_disk_Disk_step(n d:Nat)(t0:AV)(h:AHeap):world n (d+1) 38 [t0] h=disk_Disk_step (world n d) n t0 h:=
 Eq.trans (b:=fn1 Dv (disk_Disk_step (world n d) n) [t0] h) (by kernel_rfl) (fn1_eq Dv _ t0 h)
theorem w_disk_isFile(n d:Nat)(t0:Int)(h:AHeap):world n (d+1) 35 [.int .i64 t0] h=gcR h (disk_isFile (world n d) n t0 h):=
 Eq.trans (b:=gcR h (fn1 (Di .i64) (disk_isFile (world n d) n) [.int .i64 t0] h)) (by kernel_rfl) (congrArg (gcR h) (fn1_eq (Di .i64) _ t0 h))
theorem w_disk_Disk_Read(n d:Nat)(t0:AV)(t1:Int)(h:AHeap):world n (d+1) 32 [t0,.int .i64 t1] h=disk_Disk_Read (world n d) n t0 t1 h:=
 Eq.trans (b:=fn2 Dv (Di .i64) (disk_Disk_Read (world n d) n) [t0,.int .i64 t1] h) (by kernel_rfl) (fn2_eq Dv (Di .i64) _ t0 t1 h)
theorem w_disk_Disk_Loose(n d:Nat)(t0:AV)(t1:Int)(h:AHeap):world n (d+1) 21 [t0,.int .i64 t1] h=disk_Disk_Loose (world n d) n t0 t1 h:=
 Eq.trans (b:=fn2 Dv (Di .i64) (disk_Disk_Loose (world n d) n) [t0,.int .i64 t1] h) (by kernel_rfl) (fn2_eq Dv (Di .i64) _ t0 t1 h)
theorem w_disk_Disk_Crash(n d:Nat)(t0:AV)(t1:AV)(t2:Int)(h:AHeap):world n (d+1) 14 [t0,t1,.int .i64 t2] h=disk_Disk_Crash (world n d) n t0 t1 t2 h:=
 Eq.trans (b:=fn3 Dv Dv (Di .i64) (disk_Disk_Crash (world n d) n) [t0,t1,.int .i64 t2] h) (by kernel_rfl) (fn3_eq Dv Dv (Di .i64) _ t0 t1 t2 h)
theorem w_disk_file_crash(n d:Nat)(t0:AV)(t1:Int)(t2:Int)(h:AHeap):world n (d+1) 30 [t0,.int .i64 t1,.int .i64 t2] h=disk_file_crash (world n d) n t0 t1 t2 h:=
 Eq.trans (b:=fn3 Dv (Di .i64) (Di .i64) (disk_file_crash (world n d) n) [t0,.int .i64 t1,.int .i64 t2] h) (by kernel_rfl) (fn3_eq Dv (Di .i64) (Di .i64) _ t0 t1 t2 h)
theorem w_disk_content_copy(n d:Nat)(t0:AV)(h:AHeap):world n (d+1) 42 [t0] h=disk_content_copy (world n d) n t0 h:=
 Eq.trans (b:=fn1 Dv (disk_content_copy (world n d) n) [t0] h) (by kernel_rfl) (fn1_eq Dv _ t0 h)
theorem w_slices_Clone___byte_byte_(n d:Nat)(t0:AV)(h:AHeap):world n (d+1) 55 [t0] h=slices_Clone___byte_byte_ (world n d) n t0 h:=
 Eq.trans (b:=fn1 Dv (slices_Clone___byte_byte_ (world n d) n) [t0] h) (by kernel_rfl) (fn1_eq Dv _ t0 h)
theorem w_sum_More(n d:Nat)(t0:Int)(t1:Bytes)(h:AHeap):world n (d+1) 79 [.int .u32 t0,strA t1] h=gcR h (sum_More (world n d) n t0 t1 h):=
 Eq.trans (b:=gcR h (fn2 (Di .u32) Ds (sum_More (world n d) n) [.int .u32 t0,strA t1] h)) (by kernel_rfl) (congrArg (gcR h) (fn2_eq (Di .u32) Ds _ t0 t1 h))
theorem w_sum_Of(n d:Nat)(t0:Bytes)(h:AHeap):world n (d+1) 78 [strA t0] h=gcR h (sum_Of (world n d) n t0 h):=
 Eq.trans (b:=gcR h (fn1 Ds (sum_Of (world n d) n) [strA t0] h)) (by kernel_rfl) (congrArg (gcR h) (fn1_eq Ds _ t0 h))
theorem w_frame_summed(n d:Nat)(t0:Bytes)(h:AHeap):world n (d+1) 76 [strA t0] h=gcR h (frame_summed (world n d) n t0 h):=
 Eq.trans (b:=gcR h (fn1 Ds (frame_summed (world n d) n) [strA t0] h)) (by kernel_rfl) (congrArg (gcR h) (fn1_eq Ds _ t0 h))
theorem w_frame_whole(n d:Nat)(t0:Bytes)(h:AHeap):world n (d+1) 68 [strA t0] h=gcR h (frame_whole (world n d) n t0 h):=
 Eq.trans (b:=gcR h (fn1 Ds (frame_whole (world n d) n) [strA t0] h)) (by kernel_rfl) (congrArg (gcR h) (fn1_eq Ds _ t0 h))
theorem w_frame_Put(n d:Nat)(t0:Bytes)(h:AHeap):world n (d+1) 66 [strA t0] h=gcR h (frame_Put (world n d) n t0 h):=
 Eq.trans (b:=gcR h (fn1 Ds (frame_Put (world n d) n) [strA t0] h)) (by kernel_rfl) (congrArg (gcR h) (fn1_eq Ds _ t0 h))
theorem w_frame_Take(n d:Nat)(t0:Bytes)(h:AHeap):world n (d+1) 58 [strA t0] h=gcR h (frame_Take (world n d) n t0 h):=
 Eq.trans (b:=gcR h (fn1 Ds (frame_Take (world n d) n) [strA t0] h)) (by kernel_rfl) (congrArg (gcR h) (fn1_eq Ds _ t0 h))
theorem w_frame_All(n d:Nat)(t0:Bytes)(h:AHeap):world n (d+1) 45 [strA t0] h=frame_All (world n d) n t0 h:=
 Eq.trans (b:=fn1 Ds (frame_All (world n d) n) [strA t0] h) (by kernel_rfl) (fn1_eq Ds _ t0 h)
theorem w_wire_U32(n d:Nat)(t0:Int)(h:AHeap):world n (d+1) 77 [.int .u32 t0] h=gcR h (wire_U32 (world n d) n t0 h):=
 Eq.trans (b:=gcR h (fn1 (Di .u32) (wire_U32 (world n d) n) [.int .u32 t0] h)) (by kernel_rfl) (congrArg (gcR h) (fn1_eq (Di .u32) _ t0 h))
theorem w_wire_U64(n d:Nat)(t0:Int)(h:AHeap):world n (d+1) 64 [.int .u64 t0] h=gcR h (wire_U64 (world n d) n t0 h):=
 Eq.trans (b:=gcR h (fn1 (Di .u64) (wire_U64 (world n d) n) [.int .u64 t0] h)) (by kernel_rfl) (congrArg (gcR h) (fn1_eq (Di .u64) _ t0 h))
theorem w_wire_New(n d:Nat)(t0:Bytes)(h:AHeap):world n (d+1) 59 [strA t0] h=gcR h (wire_New (world n d) n t0 h):=
 Eq.trans (b:=gcR h (fn1 Ds (wire_New (world n d) n) [strA t0] h)) (by kernel_rfl) (congrArg (gcR h) (fn1_eq Ds _ t0 h))
theorem w_wire_number(n d:Nat)(t0:Int)(t1:Int)(h:AHeap):world n (d+1) 74 [.int .u64 t0,.int .i64 t1] h=gcR h (wire_number (world n d) n t0 t1 h):=
 Eq.trans (b:=gcR h (fn2 (Di .u64) (Di .i64) (wire_number (world n d) n) [.int .u64 t0,.int .i64 t1] h)) (by kernel_rfl) (congrArg (gcR h) (fn2_eq (Di .u64) (Di .i64) _ t0 t1 h))
theorem w_wire_length(n d:Nat)(t0:Bytes)(h:AHeap):world n (d+1) 75 [strA t0] h=gcR h (wire_length (world n d) n t0 h):=
 Eq.trans (b:=gcR h (fn1 Ds (wire_length (world n d) n) [strA t0] h)) (by kernel_rfl) (congrArg (gcR h) (fn1_eq Ds _ t0 h))
theorem w_wire_Text(n d:Nat)(t0:Bytes)(h:AHeap):world n (d+1) 65 [strA t0] h=gcR h (wire_Text (world n d) n t0 h):=
 Eq.trans (b:=gcR h (fn1 Ds (wire_Text (world n d) n) [strA t0] h)) (by kernel_rfl) (congrArg (gcR h) (fn1_eq Ds _ t0 h))
theorem w_wire_Reader_U32(n d:Nat)(t0:AV)(h:AHeap):world n (d+1) 67 [t0] h=wire_Reader_U32 (world n d) n t0 h:=
 Eq.trans (b:=fn1 Dv (wire_Reader_U32 (world n d) n) [t0] h) (by kernel_rfl) (fn1_eq Dv _ t0 h)
theorem w_wire_Reader_U64(n d:Nat)(t0:AV)(h:AHeap):world n (d+1) 60 [t0] h=wire_Reader_U64 (world n d) n t0 h:=
 Eq.trans (b:=fn1 Dv (wire_Reader_U64 (world n d) n) [t0] h) (by kernel_rfl) (fn1_eq Dv _ t0 h)
theorem w_wire_Reader_End(n d:Nat)(t0:AV)(h:AHeap):world n (d+1) 62 [t0] h=wire_Reader_End (world n d) n t0 h:=
 Eq.trans (b:=fn1 Dv (wire_Reader_End (world n d) n) [t0] h) (by kernel_rfl) (fn1_eq Dv _ t0 h)
theorem w_wire_Reader_Fault(n d:Nat)(t0:AV)(h:AHeap):world n (d+1) 73 [t0] h=wire_Reader_Fault (world n d) n t0 h:=
 Eq.trans (b:=fn1 Dv (wire_Reader_Fault (world n d) n) [t0] h) (by kernel_rfl) (fn1_eq Dv _ t0 h)
theorem w_wire_Reader_number(n d:Nat)(t0:AV)(t1:Int)(h:AHeap):world n (d+1) 69 [t0,.int .i64 t1] h=wire_Reader_number (world n d) n t0 t1 h:=
 Eq.trans (b:=fn2 Dv (Di .i64) (wire_Reader_number (world n d) n) [t0,.int .i64 t1] h) (by kernel_rfl) (fn2_eq Dv (Di .i64) _ t0 t1 h)
theorem w_wire_Reader_whole(n d:Nat)(t0:AV)(h:AHeap):world n (d+1) 72 [t0] h=wire_Reader_whole (world n d) n t0 h:=
 Eq.trans (b:=fn1 Dv (wire_Reader_whole (world n d) n) [t0] h) (by kernel_rfl) (fn1_eq Dv _ t0 h)
theorem w_wire_Reader_fail(n d:Nat)(t0:AV)(t1:Int)(t2:Int)(h:AHeap):world n (d+1) 71 [t0,.int .i64 t1,.int .i64 t2] h=wire_Reader_fail (world n d) n t0 t1 t2 h:=
 Eq.trans (b:=fn3 Dv (Di .i64) (Di .i64) (wire_Reader_fail (world n d) n) [t0,.int .i64 t1,.int .i64 t2] h) (by kernel_rfl) (fn3_eq Dv (Di .i64) (Di .i64) _ t0 t1 t2 h)
theorem w_wire_Reader_head(n d:Nat)(t0:AV)(t1:Int)(h:AHeap):world n (d+1) 70 [t0,.int .i64 t1] h=wire_Reader_head (world n d) n t0 t1 h:=
 Eq.trans (b:=fn2 Dv (Di .i64) (wire_Reader_head (world n d) n) [t0,.int .i64 t1] h) (by kernel_rfl) (fn2_eq Dv (Di .i64) _ t0 t1 h)
theorem w_wire_Reader_Text(n d:Nat)(t0:AV)(t1:Int)(h:AHeap):world n (d+1) 61 [t0,.int .i64 t1] h=wire_Reader_Text (world n d) n t0 t1 h:=
 Eq.trans (b:=fn2 Dv (Di .i64) (wire_Reader_Text (world n d) n) [t0,.int .i64 t1] h) (by kernel_rfl) (fn2_eq Dv (Di .i64) _ t0 t1 h)
theorem w_journal_Check(n d:Nat)(t0:List AV)(h:AHeap):world n (d+1) 51 [.agg t0] h=gcR h (journal_Check (world n d) n t0 h):=
 Eq.trans (b:=gcR h (fn1 Da (journal_Check (world n d) n) [.agg t0] h)) (by kernel_rfl) (congrArg (gcR h) (fn1_eq Da _ t0 h))
theorem w_journal_numbers(n d:Nat)(t0:List AV)(h:AHeap):world n (d+1) 63 [.agg t0] h=gcR h (journal_numbers (world n d) n t0 h):=
 Eq.trans (b:=gcR h (fn1 Da (journal_numbers (world n d) n) [.agg t0] h)) (by kernel_rfl) (congrArg (gcR h) (fn1_eq Da _ t0 h))
theorem w_journal_Journal_Next(n d:Nat)(t0:AV)(t1:Int)(h:AHeap):world n (d+1) 29 [t0,.int .i64 t1] h=journal_Journal_Next (world n d) n t0 t1 h:=
 Eq.trans (b:=fn2 Dv (Di .i64) (journal_Journal_Next (world n d) n) [t0,.int .i64 t1] h) (by kernel_rfl) (fn2_eq Dv (Di .i64) _ t0 t1 h)
theorem w_journal_Journal_Add(n d:Nat)(t0:AV)(t1:List AV)(h:AHeap):world n (d+1) 40 [t0,.agg t1] h=journal_Journal_Add (world n d) n t0 t1 h:=
 Eq.trans (b:=fn2 Dv Da (journal_Journal_Add (world n d) n) [t0,.agg t1] h) (by kernel_rfl) (fn2_eq Dv Da _ t0 t1 h)
theorem w_journal_Journal_refuses(n d:Nat)(t0:AV)(t1:List AV)(h:AHeap):world n (d+1) 47 [t0,.agg t1] h=journal_Journal_refuses (world n d) n t0 t1 h:=
 Eq.trans (b:=fn2 Dv Da (journal_Journal_refuses (world n d) n) [t0,.agg t1] h) (by kernel_rfl) (fn2_eq Dv Da _ t0 t1 h)
theorem w_journal_Journal_put(n d:Nat)(t0:AV)(t1:List AV)(h:AHeap):world n (d+1) 48 [t0,.agg t1] h=journal_Journal_put (world n d) n t0 t1 h:=
 Eq.trans (b:=fn2 Dv Da (journal_Journal_put (world n d) n) [t0,.agg t1] h) (by kernel_rfl) (fn2_eq Dv Da _ t0 t1 h)
theorem w_journal_Journal_All(n d:Nat)(t0:AV)(h:AHeap):world n (d+1) 44 [t0] h=journal_Journal_All (world n d) n t0 h:=
 Eq.trans (b:=fn1 Dv (journal_Journal_All (world n d) n) [t0] h) (by kernel_rfl) (fn1_eq Dv _ t0 h)
theorem w_journal_framed(n d:Nat)(t0:List AV)(h:AHeap):world n (d+1) 52 [.agg t0] h=gcR h (journal_framed (world n d) n t0 h):=
 Eq.trans (b:=gcR h (fn1 Da (journal_framed (world n d) n) [.agg t0] h)) (by kernel_rfl) (congrArg (gcR h) (fn1_eq Da _ t0 h))
theorem w_journal_sendOf(n d:Nat)(t0:Bytes)(h:AHeap):world n (d+1) 46 [strA t0] h=gcR h (journal_sendOf (world n d) n t0 h):=
 Eq.trans (b:=gcR h (fn1 Ds (journal_sendOf (world n d) n) [strA t0] h)) (by kernel_rfl) (congrArg (gcR h) (fn1_eq Ds _ t0 h))
theorem w_message_Above(n d:Nat)(t0:List AV)(t1:List AV)(h:AHeap):world n (d+1) 19 [.agg t0,.agg t1] h=gcR h (message_Above (world n d) n t0 t1 h):=
 Eq.trans (b:=gcR h (fn2 Da Da (message_Above (world n d) n) [.agg t0,.agg t1] h)) (by kernel_rfl) (congrArg (gcR h) (fn2_eq Da Da _ t0 t1 h))
theorem w_gateway_Gateway_Right(n d:Nat)(t0:AV)(t1:Int)(h:AHeap):world n (d+1) 13 [t0,.int .i64 t1] h=gateway_Gateway_Right (world n d) n t0 t1 h:=
 Eq.trans (b:=fn2 Dv (Di .i64) (gateway_Gateway_Right (world n d) n) [t0,.int .i64 t1] h) (by kernel_rfl) (fn2_eq Dv (Di .i64) _ t0 t1 h)
theorem w_gateway_Gateway_Do(n d:Nat)(t0:AV)(t1:List AV)(t2:AV)(h:AHeap):world n (d+1) 8 [t0,.agg t1,t2] h=gateway_Gateway_Do (world n d) n t0 t1 t2 h:=
 Eq.trans (b:=fn3 Dv Da Dv (gateway_Gateway_Do (world n d) n) [t0,.agg t1,t2] h) (by kernel_rfl) (fn3_eq Dv Da Dv _ t0 t1 t2 h)
theorem w_gateway_isRight(n d:Nat)(t0:List AV)(h:AHeap):world n (d+1) 23 [.agg t0] h=gcR h (gateway_isRight (world n d) n t0 h):=
 Eq.trans (b:=gcR h (fn1 Da (gateway_isRight (world n d) n) [.agg t0] h)) (by kernel_rfl) (congrArg (gcR h) (fn1_eq Da _ t0 h))
theorem w_gateway_Gateway_fenced(n d:Nat)(t0:AV)(t1:List AV)(t2:AV)(t3:AV)(h:AHeap):world n (d+1) 24 [t0,.agg t1,t2,t3] h=gateway_Gateway_fenced (world n d) n t0 t1 t2 t3 h:=
 Eq.trans (b:=fn4 Dv Da Dv Dv (gateway_Gateway_fenced (world n d) n) [t0,.agg t1,t2,t3] h) (by kernel_rfl) (fn4_eq Dv Da Dv Dv _ t0 t1 t2 t3 h)
theorem w_gateway_Gateway_attach(n d:Nat)(t0:AV)(t1:List AV)(t2:AV)(t3:AV)(h:AHeap):world n (d+1) 25 [t0,.agg t1,t2,t3] h=gateway_Gateway_attach (world n d) n t0 t1 t2 t3 h:=
 Eq.trans (b:=fn4 Dv Da Dv Dv (gateway_Gateway_attach (world n d) n) [t0,.agg t1,t2,t3] h) (by kernel_rfl) (fn4_eq Dv Da Dv Dv _ t0 t1 t2 t3 h)
theorem w_gateway_Gateway_send(n d:Nat)(t0:AV)(t1:List AV)(t2:AV)(t3:AV)(h:AHeap):world n (d+1) 26 [t0,.agg t1,t2,t3] h=gateway_Gateway_send (world n d) n t0 t1 t2 t3 h:=
 Eq.trans (b:=fn4 Dv Da Dv Dv (gateway_Gateway_send (world n d) n) [t0,.agg t1,t2,t3] h) (by kernel_rfl) (fn4_eq Dv Da Dv Dv _ t0 t1 t2 t3 h)
theorem w_gateway_Gateway_pull(n d:Nat)(t0:AV)(t1:List AV)(t2:AV)(t3:AV)(h:AHeap):world n (d+1) 27 [t0,.agg t1,t2,t3] h=gateway_Gateway_pull (world n d) n t0 t1 t2 t3 h:=
 Eq.trans (b:=fn4 Dv Da Dv Dv (gateway_Gateway_pull (world n d) n) [t0,.agg t1,t2,t3] h) (by kernel_rfl) (fn4_eq Dv Da Dv Dv _ t0 t1 t2 t3 h)
theorem w_gateway_Gateway_Taken(n d:Nat)(t0:AV)(h:AHeap):world n (d+1) 31 [t0] h=gateway_Gateway_Taken (world n d) n t0 h:=
 Eq.trans (b:=fn1 Dv (gateway_Gateway_Taken (world n d) n) [t0] h) (by kernel_rfl) (fn1_eq Dv _ t0 h)
theorem w_ring_Ring_End(n d:Nat)(t0:AV)(h:AHeap):world n (d+1) 39 [t0] h=ring_Ring_End (world n d) n t0 h:=
 Eq.trans (b:=fn1 Dv (ring_Ring_End (world n d) n) [t0] h) (by kernel_rfl) (fn1_eq Dv _ t0 h)
theorem w_ring_Ring_From(n d:Nat)(t0:AV)(t1:Int)(t2:Int)(h:AHeap):world n (d+1) 41 [t0,.int .i64 t1,.int .i64 t2] h=ring_Ring_From (world n d) n t0 t1 t2 h:=
 Eq.trans (b:=fn3 Dv (Di .i64) (Di .i64) (ring_Ring_From (world n d) n) [t0,.int .i64 t1,.int .i64 t2] h) (by kernel_rfl) (fn3_eq Dv (Di .i64) (Di .i64) _ t0 t1 t2 h)
end Go.Proofs.Ytfcedccphhmdgaa
namespace Go.Proofs.Ytfcedccphhmdgaa.Abs
noncomputable section
open Go.RowKit
def Wp(x:R)(Q:ARes→AHeap→Prop):Prop:=∃r h,x=some (r,h)∧Q r h
section
variable {α β:Type}{Q Q':ARes→AHeap→Prop}{r:ARes}{h h1:AHeap}{v:AV}{x y:R}{b:Bool}
theorem Wp.ret(hq:Q r h):Wp (some (r,h)) Q:=⟨r,h,rfl,hq⟩
theorem Wp.of(e:x=some (r,h))(hq:Q r h):Wp x Q:=⟨r,h,e,hq⟩
theorem Wp.mono(k:Wp x Q)(hq:∀r h,Q r h→Q' r h):Wp x Q':=by
 obtain⟨r,h,e,q⟩:=k;exact⟨r,h,e,hq r h q⟩
theorem Wp.eq(k:Wp x fun r' h'=>r'=r∧h'=h):x=some (r,h):=by
 obtain⟨_,_,e,rfl,rfl⟩:=k;exact e
theorem Wp.ex{Q:AHeap→Prop}(k:Wp x fun r' h'=>r'=r∧Q h'):∃h',x=some (r,h')∧Q h':=by
 obtain⟨_,h',e,rfl,q⟩:=k;exact⟨h',e,q⟩
theorem Wp.lett{v:α}{k:α→R}(hk:Wp (k v) Q):Wp (lett v k) Q:=hk
theorem ye{v:Int}{k:Int→R}(h1: -9223372036854775808≤v)(h2:v<9223372036854775808)(hk:Wp (k v) Q):Wp (Abs.lett (IntKind.i64.wrap v) k) Q:=by
 rw[wrap_i64 h1 h2];exact hk
theorem y1b{v:Int}{k:Int→R}(h1:0≤v)(h2:v<4294967296)(hk:Wp (k v) Q):Wp (Abs.lett (IntKind.u32.wrap v) k) Q:=by
 rw[wrap_u32_mod,Int.emod_eq_of_lt h1 h2];exact hk
theorem y1e{v:Int}{k:Int→R}(h1:0≤v)(h2:v<18446744073709551616)(hk:Wp (k v) Q):Wp (Abs.lett (IntKind.u64.wrap v) k) Q:=by
 rw[wrap_u64_mod,Int.emod_eq_of_lt h1 h2];exact hk
theorem y25{F:AHeap→R}{G:(AHeap→R)→R}(hk:∀k,k=F→Wp (G k) Q):Wp (Abs.lett F G) Q:=hk F rfl
theorem y19{F:α→AHeap→R}{G:(α→AHeap→R)→R}(hk:∀k,k=F→Wp (G k) Q):Wp (Abs.lett F G) Q:=hk F rfl
theorem y33{k F:AHeap→R}(e:k=F)(hk:Wp (F h) Q):Wp (k h) Q:=by rw[e];exact hk
theorem y2a{k F:α→AHeap→R}{a:α}(e:k=F)(hk:Wp (F a h) Q):Wp (k a h) Q:=by rw[e];exact hk
theorem Wp.obind{o:Option α}{a:α}{k:α→R}(e:o=some a)(hk:Wp (k a) Q):Wp (Abs.obind o k) Q:=by rw[e];exact hk
theorem yc(e:b=true)(hk:Wp x Q):Wp (ifB b x y) Q:=by rw[e];exact hk
theorem y7(e:b=false)(hk:Wp y Q):Wp (ifB b x y) Q:=by rw[e];exact hk
theorem Wp.outK{o:OutT}{k:AV→AHeap→R}(e:o=some (.val v,h1))(hk:Wp (k v h1) Q):Wp (Abs.outK o k) Q:=by rw[e];exact hk
theorem Wp.effK{o:OutT}{k:AHeap→R}(e:o=some (.skip,h1))(hk:Wp (k h1) Q):Wp (Abs.effK o k) Q:=by rw[e];exact hk
theorem Wp.callN{k:AV→AHeap→R}(e:x=some (.ret v,h1))(hk:Wp (k v h1) Q):Wp (Abs.callN x k) Q:=by rw[e];exact hk
theorem Wp.callK{k:AV→AHeap→R}(e:x=some (.ret v,h1))(hk:Wp (k v h1) Q):Wp (Abs.callK x k) Q:=by rw[e];exact hk
theorem Wp.chk(e:b=true)(hk:Wp x Q):Wp (Abs.chk b x) Q:=by rw[e];exact hk
theorem y3d(hx:Wp x fun r h'=>Above h h'∧r.val.scal=true∧Q r h):Wp (gcR h x) Q:=by
 obtain⟨r,h',e,ha,hv,q⟩:=hx;rw[e,gcR_scal ha hv];exact⟨_,_,rfl,q⟩
theorem Wp.gc'(hx:Wp x fun r h'=>Q r h'∧(Above h h'→Q r h)):Wp (gcR h x) Q:=by
 obtain⟨r,h',e,q1,q2⟩:=hx;rw[e];unfold gcR
 split
 ·rename_i e2
  simp only[Option.some.injEq,Prod.mk.injEq] at e2;obtain⟨rfl,rfl⟩:=e2
  split
  ·rename_i hc
   exact⟨_,_,rfl,q2 hc.1⟩
  ·exact⟨_,_,rfl,q1⟩
 ·rename_i e2
  cases e2
theorem Wp.gcn(hx:Wp x fun r h'=>r.val.lo h.next=false∧Q r h'):Wp (gcR h x) Q:=by
 obtain⟨r,h',e,hv,q⟩:=hx;rw[e,gcR_some hv];exact⟨_,_,rfl,q⟩
end
theorem sliceS_int{l:Bytes}{a b:Int}(h0:0≤a)(h1:a≤b)(h2:b≤(l.length:Int)):sliceS l a b=some ((l.drop a.toNat).take (b.toNat - a.toNat)):=by
 obtain⟨n,rfl⟩:=Int.eq_ofNat_of_zero_le h0;obtain⟨m,rfl⟩:=Int.eq_ofNat_of_zero_le (Int.le_trans h0 h1);exact sliceS_nat (by omega) (by omega)
theorem addS_val{a b:Bytes}(h:a.length+b.length≤1000000000):addS a b=some (a++b):=by
 unfold addS;rw[Nat.ble_eq_true_of_le h]
theorem nilC_ptr(b o:Nat):nilC (.ptr b o)=some (.ptr b o):=rfl
theorem fldP_ptr(f b o:Nat):fldP f (.ptr b o)=some (.ptr b (o+f)):=rfl
theorem newP_eq(h:AHeap):newP h=.ptr h.next 0:=rfl
theorem bne_t{a b:Int}(h:a≠b):(a != b)=true:=by simp[h]
theorem bne_f{a b:Int}(h:a=b):(a != b)=false:=by simp[h]
theorem beq_t{a b:Int}(h:a=b):(a == b)=true:=by simp[h]
theorem beq_f{a b:Int}(h:a≠b):(a == b)=false:=by simp[h]
section
variable {Q:ARes→AHeap→Prop}{h:AHeap}{b o n:Nat}{e:TypeId}{l vs:List AV}{v:AV}{K:AHeap→R}
theorem Wp.st1(k:RowH h b e l)(ho:o<l.length)(h1:v.one=true)(hk:∀h',RowH h' b e (l.set o v)→Tch [b] h h'→h'.next=h.next→Wp (K h') Q):Wp (Abs.obind (stRow h 1 [v] (.ptr b o)) K) Q:=by
 obtain⟨h',e1,e2,e3,e4,e5⟩:=k.st1 ho h1;exact Wp.obind e1 (hk h' e2 (tch_of e3 e4 e5 (.inl (by simp))) e3)
theorem y43(k:RowH h b e l)(hn:vs.length=n)(ho:o+n≤l.length)(h1:vs.all AV.one=true)(hk:∀h',RowH h' b e (laid l o vs)→Tch [b] h h'→h'.next=h.next→Wp (K h') Q):Wp (Abs.obind (stRow h n vs (.ptr b o)) K) Q:=by
 obtain⟨h',e1,e2,e3,e4,e5⟩:=k.st hn ho h1;exact Wp.obind e1 (hk h' e2 (tch_of e3 e4 e5 (.inl (by simp))) e3)
theorem Wp.stAll(k:RowH h b e l)(hn:vs.length=n)(hl:l.length=n)(h1:vs.all AV.one=true)(hk:∀h',RowH h' b e vs→Tch [b] h h'→h'.next=h.next→Wp (K h') Q):Wp (Abs.obind (stRow h n vs (.ptr b 0)) K) Q:=by
 obtain⟨h',e1,e2,e3,e4,e5⟩:=k.stAll hn hl h1;exact Wp.obind e1 (hk h' e2 (tch_of e3 e4 e5 (.inl (by simp))) e3)
end
end
noncomputable section
open Go.RowKit
section
variable (P:Program)(w0:Base)(m0:Map)(N:Nat)(rd:Option Nat)(n:Nat)
def WR(c:Code)(Q:Exit→Act→World→Prop)(l:Fr)(ds:DefT)(h:AHeap):Prop:=Go w0 m0 N (c.wpIn (FW rd) n P Q) l ds h
def WLR(ops:Array Oper)(i:Nat)(Q:Exit→Act→World→Prop)(l:Fr)(ds:DefT)(h:AHeap):Prop:=Go w0 m0 N (wpListIn (FW rd) n P ops Q (ops.toList.drop i)) l ds h
def InLR(c:Code)(Q:Exit→Act→World→Prop)(act:Act)(w:World):Prop:=∀(b:Frame) (k:List Item) (cs:List Frame),b.roundOf=(FW rd).round→
 ∃e a' w',Q e a' w'∧ArrivesIn (Machine.fenced P (FW rd)) P (lone (b.atR act (.code c:: .inLoop c::k)) cs w) b k cs e a' w'
end
section
variable {P:Program}{w0:Base}{m0:Map}{N:Nat}{rd:Option Nat}{n:Nat}{l l':Fr}{ds:DefT}{h h':AHeap}{Q:Exit→Act→World→Prop}{K:Act→World→Prop}{both:BothF}
theorem WR.weaken{c:Code}(hs:l.sub l')(hk:WR P w0 m0 N rd n c Q l' ds h):WR P w0 m0 N rd n c Q l ds h:=Go.weaken hs hk
theorem WLR.weaken{ops:Array Oper}{i:Nat}(hs:l.sub l')(hk:WLR P w0 m0 N rd n ops i Q l' ds h):WLR P w0 m0 N rd n ops i Q l ds h:=Go.weaken hs hk
theorem WR.skip{c:Code}(hc:Code.kind c=0)(hk:Go w0 m0 N (Q .normal) l ds h):WR P w0 m0 N rd n c Q l ds h:=by
 cases c<;>first|(exact fun m act w he ha F=>wpIn_skip (hk m act w he ha F))|(simp[Code.kind] at hc;done)|(rename_i d;cases d<;>simp[Code.kind] at hc)
theorem WR.seq{c:Code}(hc:Code.kind c=1)(hk:WR P w0 m0 N rd n (y6 c) (Exit.then ((y3 c).wpIn (FW rd) n P Q) Q) l ds h):WR P w0 m0 N rd n c Q l ds h:=by
 cases c<;>first|(exact fun m act w he ha F=>wpIn_seq (hk m act w he ha F))|(simp[Code.kind] at hc;done)|(rename_i d;cases d<;>simp[Code.kind] at hc)
theorem WR.cond_true{c:Code}(hc:Code.kind c=2)(hv:l.eval (y24 c)=some (.bool true))(hk:WR P w0 m0 N rd n (y6 c) Q l ds h):WR P w0 m0 N rd n c Q l ds h:=by
 cases c<;>first|(exact fun m act w he ha F=>wpIn_cond_true (rel_bool (eval_ok (a:=⟨l.tree,ds⟩) (fun t _=>ha.tmps t) _ (by rw[y10];exact hv))) (hk m act w he ha F))|(simp[Code.kind] at hc;done)|(rename_i d;cases d<;>simp[Code.kind] at hc)
theorem WR.cond_false{c:Code}(hc:Code.kind c=2)(hv:l.eval (y24 c)=some (.bool false))(hk:WR P w0 m0 N rd n (y3 c) Q l ds h):WR P w0 m0 N rd n c Q l ds h:=by
 cases c<;>first|(exact fun m act w he ha F=>wpIn_cond_false (rel_bool (eval_ok (a:=⟨l.tree,ds⟩) (fun t _=>ha.tmps t) _ (by rw[y10];exact hv))) (hk m act w he ha F))|(simp[Code.kind] at hc;done)|(rename_i d;cases d<;>simp[Code.kind] at hc)
theorem WR.block{c:Code}(hc:Code.kind c=3)(hk:WR P w0 m0 N rd n (y6 c) (Exit.inBlock (Code.num c) Q) l ds h):WR P w0 m0 N rd n c Q l ds h:=by
 cases c<;>first|(exact fun m act w he ha F=>wpIn_block (hk m act w he ha F))|(simp[Code.kind] at hc;done)|(rename_i d;cases d<;>simp[Code.kind] at hc)
theorem WR.exit{c:Code}(hc:Code.kind c=5)(hk:Go w0 m0 N (Q (.exit (Code.num c))) l ds h):WR P w0 m0 N rd n c Q l ds h:=by
 cases c<;>first|(exact fun m act w he ha F=>wpIn_exit (hk m act w he ha F))|(simp[Code.kind] at hc;done)|(rename_i d;cases d<;>simp[Code.kind] at hc)
theorem WR.ret{c:Code}(hc:Code.kind c=6)(hk:Go w0 m0 N (Q .ret) l ds h):WR P w0 m0 N rd n c Q l ds h:=by
 cases c<;>first|(exact fun m act w he ha F=>wpIn_ret (hk m act w he ha F))|(simp[Code.kind] at hc;done)|(rename_i d;cases d<;>simp[Code.kind] at hc)
theorem InLR.round{c:Code}{act:Act}{w:World}(hk:c.wpIn (FW rd) n P (Exit.then (InLR P rd c Q) Q) act w):InLR P rd c Q act w:=by
 intro b k cs hro;have hb:(FW rd).fn b.fn:=trivial;have hr:(FW rd).room (cs.length+1+n):=room_wide _;obtain⟨e1,a1,w1,hq,harr⟩:=hk b (.inLoop c::k) cs hro hb hr
 cases e1 with
 |normal=>
  obtain⟨e3,a3,w3,hq3,harr3⟩:=hq b k cs hro;exact⟨e3,a3,w3,hq3,.of_steps (StepsIn.trans harr (.one (fenced_calm hb hr rfl) stepR_inLoop)) harr3⟩
 |exit id=>exact⟨_,a1,w1,hq,.pass (x:=.inLoop c) rfl (fun _ _=>.inl (by simp)) harr⟩
 |goto l=>exact⟨_,a1,w1,hq,.pass (x:=.inLoop c) rfl (fun _ _=>.inl (by simp)) harr⟩
 |ret=>exact⟨_,a1,w1,hq,.pass (x:=.inLoop c) rfl (fun _ _=>.inl (by simp)) harr⟩
 |panic ch=>exact⟨_,a1,w1,hq,.pass (x:=.inLoop c) rfl (fun _ _=>.inl (by simp)) harr⟩
 |outgrown=>exact⟨_,a1,w1,hq,.pass (x:=.inLoop c) rfl (fun _ _=>.inl (by simp)) harr⟩
theorem WR.loop{c:Code}(hc:Code.kind c=4)(hk:Go w0 m0 N (InLR P rd (y6 c) Q) l ds h):WR P w0 m0 N rd n c Q l ds h:=by
 obtain⟨x,rfl⟩:=kind_loop hc;intro m act w he ha F b k cs hro hb hr;obtain⟨e,a',w',q,r⟩:=hk m act w he ha F b k cs hro;exact⟨e,a',w',q,.of_steps (.one (fenced_calm hb hr rfl) stepR_loop) r⟩
theorem Go.roundR{c:Code}(hk:WR P w0 m0 N rd n c (Exit.then (InLR P rd c Q) Q) l ds h):Go w0 m0 N (InLR P rd c Q) l ds h:=fun m act w he ha F=>InLR.round (n:=n) (hk m act w he ha F)
def noneBoth:BothF:=fun _ _ _ _=>none
theorem noneBoth_ok:BothOK P w0 noneBoth:=⟨(fun _ _ _ _ _ h=>nomatch h),(fun _ _ _ _ _ h=>nomatch h)⟩
def isDefer(o:Oper):Bool:=match o.op with
 | .defer _=>true
 |_=>false
def dstR(N:Nat)(ops:Array Oper)(i:Nat):Option (Option Nat):=match ops[i]? with
 |some o=>match okDst N o&& !isDefer o with
  |true=>some o.dst
  |false=>none
 |none=>none
theorem dstR_ok{ops:Array Oper}{i:Nat}{d:Option Nat}(hd:dstR N ops i=some d):∃o,ops[i]? =some o∧okDst N o=true∧(∀c,o.op≠ .defer c)∧o.dst=d:=by
 unfold dstR at hd
 split at hd
 ·rename_i o ho
  split at hd
  ·rename_i hk
   rw[Bool.and_eq_true] at hk;simp only[Option.some.injEq] at hd;refine⟨o,ho,hk.1,fun c e=>?_,hd⟩;have:=hk.2;unfold isDefer at this;rw[e] at this
   cases this
  ·cases hd
 ·cases hd
theorem stepR_ok1(hc:BothOK P w0 both){ops:Array Oper}{o:Oper}{ol:List Oper}{a:AAct}{st:AStep}{m:Map}{act:Act}{H:AHeap}{w:World}(ha:RelAct m N a act)(F:Fits w0 m H w)(ho:okDst N o=true)(hnd:∀c,o.op≠ .defer c)(hst:stepR P both ops o a H=some st)(hgo:∀(a':AAct) (h':AHeap),st=.go a' h'→∀(m':Map) (act':Act) (w':World),Ext m m'→RelAct m' N a' act'→Fits w0 m' h' w'→wpListIn (FW rd) n P ops Q ol act' w')(hpn:∀(v:AV) (h':AHeap),st=.panic v h'→∀(m':Map) (w':World) (v':Value),Ext m m'→Fits w0 m' h' w'→Rel m' v v'→Q (.panic [{v:=v',recovered:=false}]) act w'):
  wpListIn (FW rd) n P ops Q (o::ol) act w:=by
 have hd':∀t,o.dst=some t→t<N:=by
  intro t ht;simp only[okDst,ht] at ho;exact Nat.le_of_ble_eq_true ho
 rw[wpListIn];unfold stepR at hst
 split at hst
 ·rename_i hw
  rw[wanted_ok (fun t _=>ha.tmps t) hw];simp only[if_true];cases hop:opA P a.eval o H with
  |none=>rw[hop] at hst;cases hst
  |some p=>
   obtain⟨nx,H1⟩:=p;rw[hop] at hst;refine⟨fun _ _=>trivial,?_⟩;rw[Oper.semAt_eq _ _ _ hnd];refine uponR_ok hc (opA_ok F o (fun x _ v hv=>eval_ok (fun t _=>ha.tmps t) v hv) hop) hst (fun a' h' e' m' w' v v' he F' hv ea=>?_) (fun v h' e' m' w' v' he F' hv=>?_)
   ·subst e' ea
    exact hgo _ _ rfl m' _ w' he ((ha.mono he.le).put1 hd' hv) F'
   ·subst e'
    exact hpn _ _ rfl m' w' v' he F' hv
 ·rename_i hw
  rw[wanted_ok (fun t _=>ha.tmps t) hw];simp only[Bool.false_eq_true,if_false];simp only[stepPut,Option.some.injEq] at hst;subst hst;refine⟨fun _ _=>trivial,hgo _ _ rfl m _ w (Ext.refl m) (ha.put1 hd' (.tup .nil)) F⟩
 ·cases hst
theorem WR.region{c:Code}(hc:Code.kind c=7)(hk:WLR P w0 m0 N rd n (Code.ops c) 0 Q l ds h):WR P w0 m0 N rd n c Q l ds h:=by
 cases c with
 |region id ops d=>cases d with
  |false=>exact fun m act w he ha F=>wpIn_region_list (hk m act w he ha F)
  |true=>simp[Code.kind] at hc
 |_=>simp[Code.kind] at hc
theorem WLR.nil{ops:Array Oper}{i:Nat}(hi:Nat.beq ops.size i=true)(hk:Go w0 m0 N (Q .normal) l ds h):WLR P w0 m0 N rd n ops i Q l ds h:=by
 intro m act w he ha F
 have:ops.toList.drop i=[]:=by
  have:=Nat.eq_of_beq_eq_true hi
  simp[←this]
 rw[this];exact hk m act w he ha F
theorem WLR.step{ops:Array Oper}{i:Nat}{o:Oper}(ho:ops[i]? =some o)(hd:okDst N o=true)(hnd:∀c,o.op≠ .defer c)(hc:BothOK P w0 both){d:Option Nat}{v:AV}{ds':DefT}(hst:stepR P both ops o ⟨l.tree,ds⟩ h=some (.go ⟨(l.put d v).tree,ds'⟩ h'))(hk:WLR P w0 m0 N rd n ops (i+1) Q (l.put d v) ds' h'):WLR P w0 m0 N rd n ops i Q l ds h:=by
 intro m act w he ha F
 have hl:i<ops.toList.length:=by
  rcases Array.getElem?_eq_some_iff.1 ho with⟨h1,_⟩
  simpa using h1
 have hdrop:ops.toList.drop i=o::ops.toList.drop (i+1):=by
  rw[List.drop_eq_getElem_cons hl]
  congr 1
  rcases Array.getElem?_eq_some_iff.1 ho with⟨h1,h2⟩
  simpa using h2
 rw[hdrop];refine stepR_ok1 hc ha F hd hnd hst (fun a' h2 e m' act' w' he' ha' F'=>?_) (fun v h2 e=>by cases e);simp only[AStep.go.injEq] at e;obtain⟨rfl,rfl⟩:=e;exact hk m' act' w' (he.trans he') ha' F'
theorem WLR.val{ops:Array Oper}{i:Nat}{d:Option Nat}{v:AV}(hd:dstR N ops i=some d)(hw:wantAt ops l.get i=some true)(hop:opAt P l.eval ops i h=some (.val v,h'))(hk:WLR P w0 m0 N rd n ops (i+1) Q (l.put d v) ds h'):WLR P w0 m0 N rd n ops i Q l ds h:=by
 obtain⟨o,ho,hok,hnd,rfl⟩:=dstR_ok hd;refine WLR.step (v:=v) (d:=o.dst) (ds':=ds) ho hok hnd noneBoth_ok ?_ hk;have hw:wantedT ops l.get o.guard=some true:=by simpa [wantAt,ho] using hw
 have hop:opA P l.eval o h=some (.val v,h'):=by simpa [opAt,ho] using hop
 simp only[stepR,yf,hw,y10,hop,stepOutR,stepPut,y12]
theorem WLR.eff{ops:Array Oper}{i:Nat}(hd:dstR N ops i=some none)(hw:wantAt ops l.get i=some true)(hop:opAt P l.eval ops i h=some (.skip,h'))(hk:WLR P w0 m0 N rd n ops (i+1) Q l ds h'):WLR P w0 m0 N rd n ops i Q l ds h:=by
 obtain⟨o,ho,hok,hnd,hdn⟩:=dstR_ok hd;refine WLR.step (v:=.tup []) (d:=none) (ds':=ds) ho hok hnd noneBoth_ok ?_ hk;have hw:wantedT ops l.get o.guard=some true:=by simpa [wantAt,ho] using hw
 have hop:opA P l.eval o h=some (.skip,h'):=by simpa [opAt,ho] using hop
 simp only[stepR,yf,hw,y10,hop,stepOutR,stepPut,y12,hdn]
theorem WLR.not{ops:Array Oper}{i:Nat}{d:Option Nat}(hd:dstR N ops i=some d)(hw:wantAt ops l.get i=some false)(hk:WLR P w0 m0 N rd n ops (i+1) Q (l.put d (.tup [])) ds h):WLR P w0 m0 N rd n ops i Q l ds h:=by
 obtain⟨o,ho,hok,hnd,rfl⟩:=dstR_ok hd;refine WLR.step (v:=.tup []) (d:=o.dst) (ds':=ds) ho hok hnd noneBoth_ok ?_ hk;have hw:wantedT ops l.get o.guard=some false:=by simpa [wantAt,ho] using hw
 simp only[stepR,yf,hw,stepPut,y12]
theorem y40(hc:BothOK P w0 both){ops:Array Oper}{i:Nat}{d:Option Nat}{f:FuncId}{args:List AV}{v:AV}{h1:AHeap}(hd:dstR N ops i=some d)(hw:wantAt ops l.get i=some true)(hop:opAt P l.eval ops i h=some (.call f args,h1))(hcall:both false f args h1=some (.ret v,h'))(hk:WLR P w0 m0 N rd n ops (i+1) Q (l.put d v) ds h'):WLR P w0 m0 N rd n ops i Q l ds h:=by
 obtain⟨o,ho,hok,hnd,rfl⟩:=dstR_ok hd;refine WLR.step (v:=v) (d:=o.dst) (ds':=ds) ho hok hnd hc ?_ hk;have hw:wantedT ops l.get o.guard=some true:=by simpa [wantAt,ho] using hw
 have hop:opA P l.eval o h=some (.call f args,h1):=by simpa [opAt,ho] using hop
 simp only[stepR,yf,hw,y10,hop,stepOutR,hcall,stepRes,stepPut,y12]
def noRnd:Nat→List AV→AHeap→Option (ARes×AHeap):=fun _ _ _=>none
def mkBoth(call:CallF)(rnd:Nat→List AV→AHeap→Option (ARes×AHeap)):BothF:=fun k f args h=>match k with
 |false=>call f args h
 |true=>rnd f args h
theorem both_of_call{call:CallF}(hc:CallOK P w0 call):BothOK P w0 (mkBoth call noRnd):=⟨hc,(fun _ _ _ _ _ h=>nomatch h)⟩
theorem WLR.call{call:CallF}(hc:CallOK P w0 call){ops:Array Oper}{i:Nat}{d:Option Nat}{f:FuncId}{args:List AV}{v:AV}{h1:AHeap}(hd:dstR N ops i=some d)(hw:wantAt ops l.get i=some true)(hop:opAt P l.eval ops i h=some (.call f args,h1))(hcall:call f args h1=some (.ret v,h'))(hk:WLR P w0 m0 N rd n ops (i+1) Q (l.put d v) ds h'):WLR P w0 m0 N rd n ops i Q l ds h:=y40 (both_of_call hc) hd hw hop hcall hk
theorem WLR.round(hc:BothOK P w0 both){ops:Array Oper}{i:Nat}{d:Option Nat}{b:Nat}{args:List AV}{v:AV}{h1:AHeap}(hd:dstR N ops i=some d)(hw:wantAt ops l.get i=some true)(hop:opAt P l.eval ops i h=some (.round b args,h1))(hcall:both true b args h1=some (.ret v,h'))(hk:WLR P w0 m0 N rd n ops (i+1) Q (l.put d v) ds h'):WLR P w0 m0 N rd n ops i Q l ds h:=by
 obtain⟨o,ho,hok,hnd,rfl⟩:=dstR_ok hd;refine WLR.step (v:=v) (d:=o.dst) (ds':=ds) ho hok hnd hc ?_ hk;have hw:wantedT ops l.get o.guard=some true:=by simpa [wantAt,ho] using hw
 have hop:opA P l.eval o h=some (.round b args,h1):=by simpa [opAt,ho] using hop
 simp only[stepR,yf,hw,y10,hop,stepOutR,hcall,stepRes,stepPut,y12]
theorem WR.range(hc:BothOK P w0 both){f:Operand}{ps:Array Tmp}{x y:Code}{e:AExit}{l':Fr}{ds':DefT}(hr:rangeR P both none N (l.eval f) ps x y ⟨l.tree,ds⟩ h=some (e,⟨l'.tree,ds'⟩,h'))(hq:∀(m:Map) (act:Act) (w:World) (e':Exit),Ext m0 m→RelExit m e e'→RelAct m N ⟨l'.tree,ds'⟩ act→Fits w0 m h' w→Q e' act w):WR P w0 m0 N none n (.rangeFunc f ps x y) Q l ds h:=by
 intro m act w he ha F;have hev:(⟨l.tree,ds⟩:AAct).eval f=l.eval f:=by rw[y10]
 refine wpIn_mono (rangeR_ok (rb:=none) (f:=f) hc ⟨l.tree,ds⟩ h e _ h' (by
  show rangeR P both none N ((⟨l.tree,ds⟩:AAct).eval f) ps x y ⟨l.tree,ds⟩ h=_;rw[hev];exact hr) none n m act w trivial ha F) ?_
 rintro e' act2 w2 ⟨m2,hx,ha2,F2,hex⟩
 exact hq m2 act2 w2 e' (he.trans hx) hex ha2 F2
end
def BothAll(P:Program)(both:BothF):Prop:=∀w0,BothOK P w0 both
theorem BothAll.says{P:Program}{both:BothF}(h:BothAll P both):SaysAll P (both false):=SaysAll.of fun w0=>(h w0).call
theorem BothAll.none{P:Program}:BothAll P noneBoth:=fun _=>noneBoth_ok
theorem mkBoth_ok{P:Program}{call:CallF}{rnd:Nat→List AV→AHeap→Option (ARes×AHeap)}(hc:SaysAll P call)(hr:∀w0,RoundOK P w0 rnd):BothAll P (mkBoth call rnd):=fun w0=>⟨hc.ok w0,hr w0⟩
def worldB(cf:BothF→CallF)(rf:BothF→Nat→List AV→AHeap→Option (ARes×AHeap)):Nat→BothF
 |0=>noneBoth
 |d+1=>mkBoth (cf (worldB cf rf d)) (rf (worldB cf rf d))
theorem worldB_ok{P:Program}{cf:BothF→CallF}{rf:BothF→Nat→List AV→AHeap→Option (ARes×AHeap)}(hc:∀both,BothAll P both→SaysAll P (cf both))(hr:∀both,BothAll P both→∀w0,RoundOK P w0 (rf both)):∀d,BothAll P (worldB cf rf d)
 |0=>BothAll.none
 |d+1=>mkBoth_ok (hc _ (worldB_ok hc hr d)) (hr _ (worldB_ok hc hr d))
section
variable {P:Program}{w0:Base}{m0:Map}{N:Nat}{rd:Option Nat}{n:Nat}{l l':Fr}{ds:DefT}{h h':AHeap}{Q:Exit→Act→World→Prop}{K:Act→World→Prop}{both:BothF}{r:ARes}
abbrev FinM(P:Program)(fn:Func)(w0:Base)(m0:Map)(r:ARes)(h':AHeap):Exit→Act→World→Prop:=bodyPostM Fence.wide 0 P fn (RetOK w0 m0 h' r)
theorem Go.leaveM{fn:Func}(hr:marksR P fn ⟨l.tree,ds⟩ ds h=some (r,h')):Go w0 m0 N (FinM P fn w0 m0 r h' .ret) l ds h:=fun m _ w he ha F=>
 LeavesInM.mono (fun _ _ hh=>hh.ext he) _ _ _ (marksR_all _ _ hr m _ ha.defers) (marksR_ok _ h hr m _ w ha.tmps ha.defers F)
theorem says_ofM{f:FuncId}{fn:Func}{args:List AV}(hf:P.funcs[f]? =some fn){c:Code}(hb:fn.body=some c)(hlen:Nat.ble args.length fn.ntmps=true)(hw:∀w0 m0,WR P w0 m0 fn.ntmps none 0 c (FinM P fn w0 m0 r h') (argsFr 0 args) [] h):Says P f args h r h':=by
 intro w0 m w args' ha F;have hlen:=Nat.le_of_ble_eq_true hlen;have hl:=ha.length
 have hra : RelAct m fn.ntmps ⟨(argsFr 0 args).tree, []⟩ { tmps := (⟨args'⟩ : Array Value) ++ Array.replicate (fn.ntmps - (⟨args'⟩ : Array Value).size) undef, defers := [] } := {
  size := by simp; omega
  tmps := fun t v hv => by
   have hv : (argsFr 0 args).tree.get t = some v := hv;rw [Fr.get_tree] at hv
   obtain ⟨_, hv⟩ := argsFr_get _ _ _ _ hv
   rw [Nat.sub_zero] at hv
   obtain ⟨y, hy, hr⟩ := ha.get t v hv
   have ht : t < args'.length := (List.getElem?_eq_some_iff.1 hy).1;refine ⟨y, ?_, hr⟩
   simp only
   rw [Array.getElem?_append_left (by simpa using ht)]
   simpa using hy
  defers := .nil }
 exact callsIn_wide.1 (callsIn_of_wp_marks (n:=0) hf hb trivial (hw w0 m m _ w (Ext.refl m) hra F))
theorem y3e{m:Map}{act:Act}{t:T AV}(hs:∀i v,l.get i=some v→t.get i=some v)(hr:RelAct m N ⟨t,ds⟩ act):RelAct m N ⟨l.tree,ds⟩ act where
 size:=hr.size
 tmps i:=fun v hv=>hr.tmps i v (by
  have hv:l.tree.get i=some v:=hv;rw[Fr.get_tree] at hv;exact hs i v hv)
 defers:=hr.defers
theorem codeROK_of{c:Code}{f:AAct→AHeap→CodeT}(hf:∀(t:T AV) (ds:DefT) (h:AHeap) (e:AExit) (a':AAct) (h':AHeap),f ⟨t,ds⟩ h=some (e,a',h')→∃l:Fr,(∀i v,l.get i=some v→t.get i=some v)∧∀rd n m0,WR P w0 m0 N rd n c (fun e' act w=>Post w0 m0 N e a' h' e' act w) l ds h)(rb:Option Nat):CodeROK P w0 N rb f c:=by
 intro a h e a' h' hr rd n m act w hrb ha F;obtain⟨l,hl,hk⟩:=hf a.tmps a.defers h e a' h' hr;exact hk rd n m m act w (Ext.refl m) (y3e hl ha) F
end
end
noncomputable section
open Go.RowKit
section
variable {P:Program}{w0:Base}{m0:Map}{N:Nat}{rd:Option Nat}{nR:Nat}{l l':Fr}{ds:DefT}{h h':AHeap}{Q:Exit→Act→World→Prop}{K:Act→World→Prop}{Y:OutT}{ops:Array Oper}{i:Nat}
theorem WR.seqK{c:Code}(hc:Code.kind c=1)(hk:∀K:Exit→Act→World→Prop,(∀{ds:DefT} {l:Fr} {h:AHeap},WR P w0 m0 N rd nR (y3 c) Q l ds h→Go w0 m0 N (K .normal) l ds h)→
  (∀{id:Nat} {ds:DefT} {l:Fr} {h:AHeap},Go w0 m0 N (Q (.exit id)) l ds h→Go w0 m0 N (K (.exit id)) l ds h)→(∀{ds:DefT} {l:Fr} {h:AHeap},Go w0 m0 N (Q .ret) l ds h→Go w0 m0 N (K .ret) l ds h)→
  (∀{ds:DefT} {l:Fr} {v:AV} {h:AHeap},Pan w0 m0 N Q l ds v h→Pan w0 m0 N K l ds v h)→WR P w0 m0 N rd nR (y6 c) K l ds h):WR P w0 m0 N rd nR c Q l ds h:=
 WR.seq hc (hk _ (fun h=>h) (fun h=>h) (fun h=>h) (fun h=>h))
theorem WR.blockK{c:Code}(hc:Code.kind c=3)(hk:∀K:Exit→Act→World→Prop,(∀{ds:DefT} {l:Fr} {h:AHeap},Go w0 m0 N (Q .normal) l ds h→Go w0 m0 N (K .normal) l ds h)→
  (∀{id:Nat} {ds:DefT} {l:Fr} {h:AHeap},Nat.beq id (Code.num c)=true→Go w0 m0 N (Q .normal) l ds h→Go w0 m0 N (K (.exit id)) l ds h)→
  (∀{id:Nat} {ds:DefT} {l:Fr} {h:AHeap},Nat.beq id (Code.num c)=false→Go w0 m0 N (Q (.exit id)) l ds h→Go w0 m0 N (K (.exit id)) l ds h)→(∀{ds:DefT} {l:Fr} {h:AHeap},Go w0 m0 N (Q .ret) l ds h→Go w0 m0 N (K .ret) l ds h)→
  (∀{ds:DefT} {l:Fr} {v:AV} {h:AHeap},Pan w0 m0 N Q l ds v h→Pan w0 m0 N K l ds v h)→WR P w0 m0 N rd nR (y6 c) K l ds h):WR P w0 m0 N rd nR c Q l ds h:=
 WR.block hc (hk _ (fun h=>h) (fun e h=>Go.bS e h) (fun e h=>Go.bO e h) (fun h=>h) (fun h=>h))
theorem WR.loopK{c:Code}(hc:Code.kind c=4)(hk:∀(I:Act→World→Prop) (K:Exit→Act→World→Prop),(∀{ds:DefT} {l:Fr} {h:AHeap},WR P w0 m0 N rd nR (y6 c) K l ds h→Go w0 m0 N I l ds h)→
  (∀{ds:DefT} {l:Fr} {h:AHeap},Go w0 m0 N I l ds h→Go w0 m0 N (K .normal) l ds h)→(∀{id:Nat} {ds:DefT} {l:Fr} {h:AHeap},Go w0 m0 N (Q (.exit id)) l ds h→Go w0 m0 N (K (.exit id)) l ds h)→
  (∀{ds:DefT} {l:Fr} {h:AHeap},Go w0 m0 N (Q .ret) l ds h→Go w0 m0 N (K .ret) l ds h)→(∀{ds:DefT} {l:Fr} {v:AV} {h:AHeap},Pan w0 m0 N Q l ds v h→Pan w0 m0 N K l ds v h)→
  Go w0 m0 N I l ds h):WR P w0 m0 N rd nR c Q l ds h:=
 WR.loop hc (hk _ _ (fun h=>Go.roundR h) (fun h=>h) (fun h=>h) (fun h=>h) (fun h=>h))
end
section
variable {P:Program}{w0:Base}{m0:Map}{N:Nat}{rd:Option Nat}{nR:Nat}{l l':Fr}{ds:DefT}{h:AHeap}{Q:Exit→Act→World→Prop}{K:Act→World→Prop}{Y:OutT}{ops:Array Oper}{i:Nat}
theorem WLR.a(d:Option Nat)(v:AV)(h':AHeap)(hk:WLR P w0 m0 N rd nR ops (i+1) Q (l.put d v) ds h')(h1:dstR N ops i=some d:=by kernel_rfl)(h2:wantAt ops l.get i=some true:=by kernel_rfl)(h3:opAt P l.eval ops i h=some (.val v,h'):=by kernel_rfl):WLR P w0 m0 N rd nR ops i Q l ds h:=WLR.val h1 h2 h3 hk
theorem WLR.b(d:Option Nat)(v:AV)(h':AHeap)(x:Y=some (.val v,h'))(hk:WLR P w0 m0 N rd nR ops (i+1) Q (l.put d v) ds h')(h1:dstR N ops i=some d:=by kernel_rfl)(h2:wantAt ops l.get i=some true:=by kernel_rfl)(h3:opAt P l.eval ops i h=Y:=by kernel_rfl):WLR P w0 m0 N rd nR ops i Q l ds h:=WLR.val h1 h2 (h3.trans x) hk
theorem WLR.e(h':AHeap)(x:Y=some (.skip,h'))(hk:WLR P w0 m0 N rd nR ops (i+1) Q l ds h')(h1:dstR N ops i=some none:=by kernel_rfl)(h2:wantAt ops l.get i=some true:=by kernel_rfl)(h3:opAt P l.eval ops i h=Y:=by kernel_rfl):WLR P w0 m0 N rd nR ops i Q l ds h:=WLR.eff h1 h2 (h3.trans x) hk
theorem WLR.o(d:Option Nat)(hk:WLR P w0 m0 N rd nR ops (i+1) Q (l.put d (.tup [])) ds h)(h1:dstR N ops i=some d:=by kernel_rfl)(h2:wantAt ops l.get i=some false:=by kernel_rfl):WLR P w0 m0 N rd nR ops i Q l ds h:=WLR.not h1 h2 hk
theorem WLR.c{call:CallF}(hc:CallOK P w0 call)(d:Option Nat){f:FuncId}{args:List AV}{v:AV}{h1 h':AHeap}(hcall:call f args h1=some (.ret v,h'))(hk:WLR P w0 m0 N rd nR ops (i+1) Q (l.put d v) ds h')(h2:dstR N ops i=some d:=by kernel_rfl)(h3:wantAt ops l.get i=some true:=by kernel_rfl)(h4:opAt P l.eval ops i h=some (.call f args,h1):=by kernel_rfl):WLR P w0 m0 N rd nR ops i Q l ds h:=WLR.call hc h2 h3 h4 hcall hk
theorem WLR.n(hk:Go w0 m0 N (Q .normal) l ds h)(hi:Nat.beq ops.size i=true:=by kernel_rfl):WLR P w0 m0 N rd nR ops i Q l ds h:=WLR.nil hi hk
theorem WR.r{c:Code}(hk:WLR P w0 m0 N rd nR (Code.ops c) 0 Q l ds h)(hc:Code.kind c=7:=by kernel_rfl):WR P w0 m0 N rd nR c Q l ds h:=WR.region hc hk
theorem WR.s{c:Code}(hk:∀K:Exit→Act→World→Prop,(∀{ds:DefT} {l:Fr} {h:AHeap},WR P w0 m0 N rd nR (y3 c) Q l ds h→Go w0 m0 N (K .normal) l ds h)→
  (∀{id:Nat} {ds:DefT} {l:Fr} {h:AHeap},Go w0 m0 N (Q (.exit id)) l ds h→Go w0 m0 N (K (.exit id)) l ds h)→(∀{ds:DefT} {l:Fr} {h:AHeap},Go w0 m0 N (Q .ret) l ds h→Go w0 m0 N (K .ret) l ds h)→
  (∀{ds:DefT} {l:Fr} {v:AV} {h:AHeap},Pan w0 m0 N Q l ds v h→Pan w0 m0 N K l ds v h)→WR P w0 m0 N rd nR (y6 c) K l ds h)(hc:Code.kind c=1:=by kernel_rfl):WR P w0 m0 N rd nR c Q l ds h:=WR.seqK hc hk
theorem WR.t{c:Code}(hk:WR P w0 m0 N rd nR (y6 c) Q l ds h)(hc:Code.kind c=2:=by kernel_rfl)(hv:l.eval (y24 c)=some (.bool true):=by kernel_rfl):WR P w0 m0 N rd nR c Q l ds h:=WR.cond_true hc hv hk
theorem WR.f{c:Code}(hk:WR P w0 m0 N rd nR (y3 c) Q l ds h)(hc:Code.kind c=2:=by kernel_rfl)(hv:l.eval (y24 c)=some (.bool false):=by kernel_rfl):WR P w0 m0 N rd nR c Q l ds h:=WR.cond_false hc hv hk
end
end
noncomputable section
open Go.RowKit
def isRng:Code→Bool
 | .rangeFunc _ _ _ _=>true
 |_=>false
def Code.rgo:Code→Operand
 | .rangeFunc f _ _ _=>f
 |_=>.tmp 0
def y16:Code→Array Tmp
 | .rangeFunc _ ps _ _=>ps
 |_=> #[]
def y1d:Code→Code
 | .rangeFunc _ _ x _=>x
 |_=>.skip
def y18:Code→Code
 | .rangeFunc _ _ _ y=>y
 |_=>.skip
abbrev dmark(D:Nat):FuncId×List AV×List AV:=(0,[],[.mrk D])
def rngX(P:Program)(both:BothF)(N:Nat)(v:AV)(c:Code)(t:T AV)(ds:DefT)(h:AHeap):CodeT:=rangeR P both none N (some v) (y16 c) (y1d c) (y18 c) ⟨t,ds⟩ h
def rngK(x:CodeT)(kn kr:AHeap→R)(ke:Nat→AHeap→R):R:=match x with
 |some (.normal,_,h)=>kn h
 |some (.ret,_,h)=>kr h
 |some (.exit id,_,h)=>ke id h
 |_=>none
theorem rng_frame{P:Program}{both:BothF}{N:Nat}{f:Option AV}{ps:Array Tmp}{x y:Code}{t:T AV}{ds:DefT}{h h':AHeap}{e:AExit}{a':AAct}(hr:rangeR P both none N f ps x y ⟨t,ds⟩ h=some (e,a',h')):a'=⟨t,dmark h.next::ds⟩:=by
 unfold rangeR at hr
 split at hr
 ·split at hr
  ·simp only [enterR] at hr
   unfold endR at hr
   split at hr
   ·split at hr
    ·split at hr
     ·cases hr
     ·split at hr<;> ·simp only[Option.some.injEq,Prod.mk.injEq] at hr;exact hr.2.1.symm
    ·cases hr
   ·cases hr
  ·cases hr
 ·cases hr
section
variable {P:Program}{w0:Base}{m0:Map}{N:Nat}{n:Nat}{l l':Fr}{ds:DefT}{h:AHeap}{Q:Exit→Act→World→Prop}{both:BothF}{r:ARes×AHeap}{kn kr:AHeap→R}{ke:Nat→AHeap→R}{v:AV}
theorem WR.rng(hc:BothAll P both){c:Code}(z:rngK (rngX P both N v c l.tree ds h) kn kr ke=some r)(hn:∀h',kn h'=some r→Go w0 m0 N (Q .normal) l (dmark h.next::ds) h')(hr:∀h',kr h'=some r→Go w0 m0 N (Q .ret) l (dmark h.next::ds) h')(he:∀id h',ke id h'=some r→Go w0 m0 N (Q (.exit id)) l (dmark h.next::ds) h')(hk:isRng c=true:=by kernel_rfl)(hv:l.eval (Code.rgo c)=some v:=by kernel_rfl):WR P w0 m0 N none n c Q l ds h:=by
 cases c with
 |rangeFunc f ps x y=>
  have hv:l.eval f=some v:=hv;unfold rngK rngX at z;have hx:rangeR P both none N (some v) (y16 (.rangeFunc f ps x y)) (y1d (.rangeFunc f ps x y)) (y18 (.rangeFunc f ps x y)) ⟨l.tree,ds⟩ h=rangeR P both none N (l.eval f) ps x y ⟨l.tree,ds⟩ h:=by rw[hv];rfl
  rw[hx] at z;cases hr2:rangeR P both none N (l.eval f) ps x y ⟨l.tree,ds⟩ h with
  |none=>rw[hr2] at z;cases z
  |some p=>
   obtain⟨e,a',h'⟩:=p;have ha:=rng_frame hr2;subst ha;rw[hr2] at z;refine WR.range (l':=l) (hc w0) hr2 fun m act w e' hx hex ha F=>?_;cases hex with
   |normal=>exact hn h' z m act w hx ha F
   |ret=>exact hr h' z m act w hx ha F
   |exit id=>exact he id h' z m act w hx ha F
   |goto l=>cases z
   |panic hv=>cases z
 |_=>cases hk
def marksH:DefT→AHeap→Option AHeap
 |[],h=>some h
 |(0,[],[.mrk D])::ds,h=>match h.get D with
  |some (.obj .dfr)=>marksH ds (h.put D (.obj .shut))
  |_=>none
 |_,_=>none
def marksK(ds:DefT)(h:AHeap)(k:AHeap→R):R:=match marksH ds h with
 |some h'=>k h'
 |none=>none
theorem marksR_H{fn:Func}{a:AAct}:∀(ds:DefT) (h h':AHeap),marksH ds h=some h'→marksR P fn a ds h=retA h' (resAll P a h' fn.results.toList)
 |[],h,h',e=>by
  simp only[marksH,Option.some.injEq] at e;subst e;rfl
 |d::ds,h,h',e=>by
  unfold marksH at e
  split at e
  ·rename_i e'
   cases e'
  ·rename_i D ds2 _ e'
   simp only[List.cons.injEq] at e';obtain⟨rfl,rfl⟩:=e'
   split at e
   ·rename_i hb
    have ih:=marksR_H (fn:=fn) (a:=a) _ _ _ e;simp only[marksR,hb];exact ih
   ·cases e
  ·cases e
theorem y28{fn:Func}{rR:ARes}{hR:AHeap}{k:AHeap→R}(z:marksK ds h k=some (rR,hR))(hk:∀h',k h'=some (rR,hR)→retA h' (resGs P l.get h' fn.results.toList)=some (rR,hR)):Go w0 m0 N (FinM P fn w0 m0 rR hR .ret) l ds h:=by
 unfold marksK at z
 split at z
 ·rename_i h' hm
  refine Go.leaveM ?_;rw[marksR_H _ _ _ hm];have:=hk h' z;rw[←resGs_eq];show retA h' (resGs P l.tree.get h' _)=_;rw[yf];exact this
 ·cases z
theorem y45{fn:Func}{rR:ARes}{hR:AHeap}{k:AHeap→R}(z:marksK ds h k=some (rR,hR))(hk:∀h',k h'=some (rR,hR)→retA h' (resGs P l.get h' fn.results.toList)=some (rR,hR)):Go w0 m0 N (FinM P fn w0 m0 rR hR .normal) l ds h:=y28 (P:=P) z hk
end
theorem ret_of{P:Program}{g:Nat→Option AV}{h:AHeap}{fn:Func}{rs:List ResultVar}{vs:List AV}{v:AV}(hrs:fn.results.toList=rs)(hv:resGs P g h rs=some vs)(hr:retA h (some vs)=some (.ret v,h)):retA h (resGs P g h fn.results.toList)=some (.ret v,h):=by
 rw[hrs,hv];exact hr
theorem ifB_id{id k:Nat}{a:R}{r:ARes×AHeap}(z:ifB (Nat.beq id k) a none=some r):id=k∧a=some r:=by
 cases hb:Nat.beq id k with
 |true=>rw[hb] at z;exact⟨Nat.eq_of_beq_eq_true hb,z⟩
 |false=>rw[hb] at z;cases z
def dynB(P:Program)(both:BothF)(f:AV)(args:List AV)(h:AHeap):R:=match callV P h args (some f) with
 |some (.call g xs,h1)=>both false g xs h1
 |some (.round b xs,h1)=>both true b xs h1
 |some (.val v,h1)=>some (.ret v,h1)
 |_=>none
section
variable {P:Program}{w0:Base}{m0:Map}{N:Nat}{rd:Option Nat}{n:Nat}{l:Fr}{ds:DefT}{h h':AHeap}{Q:Exit→Act→World→Prop}{both:BothF}
theorem WLR.dyn(hc:BothAll P both){ops:Array Oper}{i:Nat}{d:Option Nat}{f v:AV}{args:List AV}(hcall:dynB P both f args h=some (.ret v,h'))(hk:WLR P w0 m0 N rd n ops (i+1) Q (l.put d v) ds h')(hd:dstR N ops i=some d:=by kernel_rfl)(hw:wantAt ops l.get i=some true:=by kernel_rfl)(hop:opAt P l.eval ops i h=callV P h args (some f):=by kernel_rfl):WLR P w0 m0 N rd n ops i Q l ds h:=by
 unfold dynB at hcall
 split at hcall
 ·rename_i g xs h1 e
  exact y40 (hc w0) hd hw (hop.trans e) hcall hk
 ·rename_i b xs h1 e
  exact WLR.round (hc w0) hd hw (hop.trans e) hcall hk
 ·rename_i v1 h1 e
  cases hcall;exact WLR.val hd hw (hop.trans e) hk
 ·cases hcall
end
def decE:ARes→AExit
 | .ret (.int _ z)=>match z with
  |0=>.normal
  |1=>.ret
  |z=>.exit (z - 2).toNat
 |_=>.normal
def tupFr(ts:List Nat):ARes→Fr
 | .ret (.tup vs)=>ts.zip vs
 |_=>[]
section
variable {P:Program}{w0:Base}{m0:Map}{N:Nat}{l l':Fr}{ds:DefT}{h:AHeap}
theorem y3c(hs:l.sub l'):Go w0 m0 N (Post w0 m0 N .normal ⟨l'.tree,ds⟩ h .normal) l ds h:=fun m _ _ he ha F=>⟨m,he,ha.weaken hs,F,.normal⟩
theorem Go.postE{id:Nat}:Go w0 m0 N (Post w0 m0 N (.exit id) ⟨Fr.tree [],ds⟩ h (.exit id)) l ds h:=fun m _ _ he ha F=>⟨m,he,ha.weaken (y9 _),F,.exit id⟩
end
section
variable {P:Program}{both:BothF}{N:Nat}{c:Code}{t:T AV}{ds:DefT}{h h2:AHeap}{kn kr:AHeap→R}{ke:Nat→AHeap→R}{Q:ARes→AHeap→Prop}{g:FuncId}{first cap:List AV}{v:AV}{q:ALoop}
def rngH(N:Nat)(c:Code)(t:T AV)(h:AHeap):AHeap:=(h.new (.obj .dfr)).new (.obj (.loop ⟨.ready,.none,t,N,y16 c,y1d c,y18 c,h.next⟩))
theorem rngX_of(hb:hasBody P g=true)(e:both false g (first++[.yld (h.next+1)]++cap) (rngH N c t h)=some (.ret v,h2))(hq:h2.get (h.next+1)=some (.obj (.loop q)))(hs:q.st≠ .busy):
  rngX P both N (.fn g first cap) c t ds h=(match q.pend with
   | .none=>some (.normal,⟨t,dmark h.next::ds⟩,h2.put (h.next+1) (.obj (.loop {q with st:=.exhausted})))
   | .ret=>some (.ret,⟨t,dmark h.next::ds⟩,h2.put (h.next+1) (.obj (.loop {q with st:=.exhausted})))
   | .exit id=>some (.exit id,⟨t,dmark h.next::ds⟩,h2.put (h.next+1) (.obj (.loop {q with st:=.exhausted})))):=by
 unfold rngX rangeR;simp only[hb,enterR];unfold rngH at e;rw[e];unfold endR;simp only[hq];cases hst:q.st with
 |busy=>exact absurd hst hs
 |_=>rfl
theorem Wp.rngN(hb:hasBody P g=true)(e:both false g (first++[.yld (h.next+1)]++cap) (rngH N c t h)=some (.ret v,h2))(hq:h2.get (h.next+1)=some (.obj (.loop q)))(hs:q.st≠ .busy)(hp:q.pend=.none)(hk:Wp (kn (h2.put (h.next+1) (.obj (.loop {q with st:=.exhausted})))) Q):Wp (rngK (rngX P both N (.fn g first cap) c t ds h) kn kr ke) Q:=by
 rw[rngX_of hb e hq hs];rw[hp] at hk ⊢;exact hk
theorem Wp.rngR(hb:hasBody P g=true)(e:both false g (first++[.yld (h.next+1)]++cap) (rngH N c t h)=some (.ret v,h2))(hq:h2.get (h.next+1)=some (.obj (.loop q)))(hs:q.st≠ .busy)(hp:q.pend=.ret)(hk:Wp (kr (h2.put (h.next+1) (.obj (.loop {q with st:=.exhausted})))) Q):Wp (rngK (rngX P both N (.fn g first cap) c t ds h) kn kr ke) Q:=by
 rw[rngX_of hb e hq hs];rw[hp] at hk ⊢;exact hk
theorem Wp.rngE{id:Nat}(hb:hasBody P g=true)(e:both false g (first++[.yld (h.next+1)]++cap) (rngH N c t h)=some (.ret v,h2))(hq:h2.get (h.next+1)=some (.obj (.loop q)))(hs:q.st≠ .busy)(hp:q.pend=.exit id)(hk:Wp (ke id (h2.put (h.next+1) (.obj (.loop {q with st:=.exhausted})))) Q):Wp (rngK (rngX P both N (.fn g first cap) c t ds h) kn kr ke) Q:=by
 rw[rngX_of hb e hq hs];rw[hp] at hk ⊢;exact hk
end
end
noncomputable section
open Go.RowKit
structure Site where
 N:Nat
 code:Code
 run:BothF→AAct→AHeap→CodeT
open Classical in
def Site.ok(P:Program)(s:Site):Prop:=∀both,BothAll P both→∀w0 rb,CodeROK P w0 s.N rb (s.run both) s.code
open Classical in
def decA(ts:List Nat)(ds:DefT):R→CodeT
 |some (r,h)=>some (.normal,⟨Fr.tree (tupFr ts r),ds⟩,h)
 |none=>none
def decB(ds:DefT):R→CodeT
 |some (r,h)=>some (decE r,⟨Fr.tree [],ds⟩,h)
 |none=>none
theorem decA_some{ts:List Nat}{ds:DefT}{x:R}{e:AExit}{a':AAct}{h':AHeap}(z:decA ts ds x=some (e,a',h')):∃r,x=some (r,h')∧e=.normal∧a'=⟨Fr.tree (tupFr ts r),ds⟩:=by
 cases x with
 |none=>cases z
 |some p=>
  obtain⟨r,h⟩:=p;simp only[decA,Option.some.injEq,Prod.mk.injEq] at z;obtain⟨rfl,rfl,rfl⟩:=z;exact⟨r,rfl,rfl,rfl⟩
theorem decB_some{ds:DefT}{x:R}{e:AExit}{a':AAct}{h':AHeap}(z:decB ds x=some (e,a',h')):∃r,x=some (r,h')∧e=decE r∧a'=⟨Fr.tree [],ds⟩:=by
 cases x with
 |none=>cases z
 |some p=>
  obtain⟨r,h⟩:=p;simp only[decB,Option.some.injEq,Prod.mk.injEq] at z;obtain⟨rfl,rfl,rfl⟩:=z;exact⟨r,rfl,rfl,rfl⟩
end
noncomputable section
open Go.RowKit
def orF(a b:CallF):CallF:=fun f args h=>match a f args h with
 |some r=>some r
 |none=>b f args h
theorem orF_ok{P:Program}{a b:CallF}(ha:SaysAll P a)(hb:SaysAll P b):SaysAll P (orF a b):=by
 intro f args h r h' e;unfold orF at e
 split at e
 ·rename_i r' e2
  cases e
  exact ha _ _ _ _ _ e2
 ·exact hb _ _ _ _ _ e
theorem orF_l{a b:CallF}{f:FuncId}{args:List AV}{h:AHeap}{x:ARes×AHeap}(e:a f args h=some x):orF a b f args h=some x:=by
 unfold orF;rw[e]
theorem orF_r{a b:CallF}{f:FuncId}{args:List AV}{h:AHeap}(e:a f args h=none):orF a b f args h=b f args h:=by
 unfold orF;rw[e]
theorem callOf_none{f:FuncId}:∀(l:List (FuncId×FnT)) (args:List AV) (h:AHeap),(l.all fun p=> !Nat.beq p.1 f)=true→callOf l f args h=none
 |[],_,_,_=>rfl
 |(g,s)::l,args,h,e=>by
  rw[List.all_cons,Bool.and_eq_true] at e;unfold callOf;have e1:Nat.beq g f=false:=by simpa using e.1
  rw[e1];exact callOf_none l args h e.2
def y23:Code→Nat
 | .region id _ _=>id+1
 | .seq a b=>y23 a*3+y23 b
 | .cond _ a b=>y23 a*5+y23 b
 | .block _ a=>y23 a
 | .loop a=>y23 a
 |_=>0
structure LSite where
 N:Nat
 c:Code
 sa:List Nat
 fa:BothF→FnT
 ts:List Nat
 fb:BothF→FnT
open Classical in
def lsite(sites:List LSite)(q:ALoop):Option LSite:=sites.find? fun s=>Nat.beq s.N q.N&&(Nat.beq (y23 (y18 s.c)) (y23 q.body)&&decide (y1d s.c=q.assign∧y18 s.c=q.body))
theorem lsite_some{sites:List LSite}{q:ALoop}{s:LSite}(h:lsite sites q=some s):s∈sites∧s.N=q.N∧y1d s.c=q.assign∧y18 s.c=q.body:=by
 have h1:=List.mem_of_find?_eq_some h;have h2:=List.find?_some h;simp only[Bool.and_eq_true,decide_eq_true_eq] at h2;exact⟨h1,Nat.eq_of_beq_eq_true h2.1,h2.2.2.1,h2.2.2.2⟩
open Classical in
theorem lsite_hit{s:LSite}{l:List LSite}{q:ALoop}(h1:s.N=q.N)(h2:y1d s.c=q.assign)(h3:y18 s.c=q.body):lsite (s::l) q=some s:=by
 unfold lsite;rw[List.find?_cons_of_pos];rw[h1,h2,h3,Nat.beq_refl,Nat.beq_refl];exact decide_eq_true ⟨rfl,rfl⟩
theorem lsite_miss{s:LSite}{l:List LSite}{q:ALoop}(h:(Nat.beq s.N q.N&&Nat.beq (y23 (y18 s.c)) (y23 q.body))=false):lsite (s::l) q=lsite l q:=by
 unfold lsite;rw[List.find?_cons_of_neg];rw[←Bool.and_assoc,h];exact Bool.false_ne_true
def slotsC(t:T AV):List Nat→Option (List AV)
 |[]=>some []
 |i::l=>match t.get i,slotsC t l with
  |some v,some vs=>some (v::vs)
  |_,_=>none
theorem slotsC_get{t:T AV}:∀{l:List Nat} {vs:List AV},slotsC t l=some vs→∀i v,Fr.get (l.zip vs) i=some v→t.get i=some v
 |[],vs,h,i,v,e=>by
  cases h
  cases e
 |j::l,vs,h,i,v,e=>by
  unfold slotsC at h
  split at h
  ·rename_i w ws e1 e2
   cases h;rw[List.zip_cons_cons] at e;unfold Fr.get at e
   split at e
   ·rename_i hb
    have:=Nat.eq_of_beq_eq_true hb;subst this
    cases e
    exact e1
   ·exact slotsC_get e2 i v e
  ·cases h
def LSite.A(s:LSite)(both:BothF):AAct→AHeap→CodeT:=fun a h=>match slotsC a.tmps s.sa with
 |some vs=>decA s.ts a.defers (s.fa both vs h)
 |none=>none
def LSite.B(s:LSite)(both:BothF):AAct→AHeap→CodeT:=fun a h=>match slotsC a.tmps s.ts with
 |some vs=>decB a.defers (s.fb both vs h)
 |none=>none
structure LSite.ok (P:Program) (s:LSite):Prop where
 A:∀{both:BothF},BothAll P both→∀{vs:List AV} {h:AHeap} {r:ARes} {h':AHeap},s.fa both vs h=some (r,h')→∀(w0:Base) (m0:Map) (rd:Option Nat) (n:Nat) (ds:DefT),WR P w0 m0 s.N rd n (y1d s.c) (Post w0 m0 s.N .normal ⟨Fr.tree (tupFr s.ts r),ds⟩ h') (s.sa.zip vs) ds h
 B:∀{both:BothF},BothAll P both→∀{vs:List AV} {h:AHeap} {r:ARes} {h':AHeap},s.fb both vs h=some (r,h')→∀(w0:Base) (m0:Map) (rd:Option Nat) (n:Nat) (ds:DefT),WR P w0 m0 s.N rd n (y18 s.c) (Post w0 m0 s.N (decE r) ⟨Fr.tree [],ds⟩ h') (s.ts.zip vs) ds h
theorem LSite.okA{P:Program}{s:LSite}(hs:s.ok P){both:BothF}(hc:BothAll P both)(w0:Base)(rb:Option Nat):CodeROK P w0 s.N rb (s.A both) (y1d s.c):=by
 refine codeROK_of (fun t ds h e a' h' hr=>?_) rb;unfold LSite.A at hr
 split at hr
 ·rename_i vs hv
  obtain⟨r,e1,rfl,rfl⟩:=decA_some hr;exact⟨s.sa.zip vs,slotsC_get hv,fun rd n m0=>hs.A hc e1 w0 m0 rd n ds⟩
 ·cases hr
theorem LSite.okB{P:Program}{s:LSite}(hs:s.ok P){both:BothF}(hc:BothAll P both)(w0:Base)(rb:Option Nat):CodeROK P w0 s.N rb (s.B both) (y18 s.c):=by
 refine codeROK_of (fun t ds h e a' h' hr=>?_) rb;unfold LSite.B at hr
 split at hr
 ·rename_i vs hv
  obtain⟨r,e1,rfl,rfl⟩:=decB_some hr;exact⟨s.ts.zip vs,slotsC_get hv,fun rd n m0=>hs.B hc e1 w0 m0 rd n ds⟩
 ·cases hr
def roundQ(fa fb:ALoop→AAct→AHeap→CodeT)(b:Nat)(args:List AV)(h:AHeap):Option (ARes×AHeap):=match h.get b with
 |some (.obj (.loop r))=>match putPs r.N r.ps.toList args r.tmps with
  |some t=>midRound (fb r) b (fa r ⟨t,[]⟩ h)
  |none=>none
 |_=>none
theorem roundQ_ok{P:Program}{w0:Base}{fa fb:ALoop→AAct→AHeap→CodeT}(ha:∀(q:ALoop) (b:Nat),CodeROK P w0 q.N (some b) (fa q) q.assign)(hb:∀(q:ALoop) (b:Nat),CodeROK P w0 q.N (some b) (fb q) q.body):RoundOK P w0 (roundQ fa fb):=by
 intro b args h r h' hr m w args' g r' hra F hmb hl hlen rd n;unfold roundQ at hr
 split at hr
 ·rename_i rr hb0
  split at hr
  ·rename_i t ht
   obtain⟨_,_,_,r2,k1,k2,k3,k4,k5,k6,k7,k8,k9⟩:=F.obj _ _ _ _ _ hb0 hmb;rw[hl] at k1
   cases k1
   have hfr:=putPs_ok rr.ps.toList args args' rr.tmps t r'.tmps ht hra k4 k5
   have hz:(r'.params.zip ⟨args'⟩).foldl (fun tmps (x:Tmp×Value)=>tmps.setIfInBounds x.1 x.2) r'.tmps=(rr.ps.toList.zip args').foldl (fun tmps (p:Tmp×Value)=>tmps.setIfInBounds p.1 p.2) r'.tmps:=by
    rw[k6, ←Array.foldl_toList,Array.toList_zip]
   rw[←hz] at hfr;refine roundIn_of_wpIn trivial ?_;have hrel:RelAct m rr.N ⟨t,[]⟩ {tmps:=(r'.params.zip ⟨args'⟩).foldl (fun tmps (x:Tmp×Value)=>tmps.setIfInBounds x.1 x.2) r'.tmps,defers:=[]}:=⟨hfr.1,fun i v hv=>hfr.2 i v hv,.nil⟩;unfold midRound at hr
   split at hr
   ·rename_i a1 h1 hcode
    have h1w:=ha rr b _ _ _ _ _ hcode (some g) n m _ w hmb hrel F;rw[k7];refine wpIn_mono h1w ?_
    rintro e1 act1 w1 ⟨m1,hx1,ha1,F1,hex⟩
    cases hex
    split at hr
    ·rename_i r1 hb1
     split at hr
     ·rename_i hst
      have hmb1:=hx1.le _ _ hmb;obtain⟨r1',q1,q2,q3,q4,F2⟩:=F1.reLoop hb1 hmb1 .busy r1.pend;rw[←q3] at F2;refine⟨_,run_beginRound q1 (by rw[q2];exact hst),?_⟩;unfold endRound at hr
      split at hr
      ·rename_i e3 a3 h3 hbody
       split at hr
       ·rename_i j hj
        split at hr
        ·rename_i r3 hb3
         simp only[Option.some.injEq,Prod.mk.injEq] at hr;obtain⟨rfl,rfl⟩:=hr;have h2w:=hb rr b _ _ _ _ _ hbody (some g) n m1 _ _ hmb1 ha1 F2;rw[k8];refine wpIn_mono h2w ?_
         rintro e4 act4 w4 ⟨m4,hx4,ha4,F4,hex⟩
         have hmb4:=hx4.le _ _ hmb1;obtain⟨r3',p1,p2,p3,p4,F5⟩:=F4.reLoop hb3 hmb4 (if j.isNone then .ready else .done) j;have hx:=hx1.trans hx4;cases hex with
         |normal=>
          simp only[jumpOf,Option.some.injEq] at hj;subst hj;exact⟨_,_,run_endRound none p1,m4,hx,F5,_,rfl,.bool _⟩
         |ret=>
          simp only[jumpOf,Option.some.injEq] at hj;subst hj;exact⟨_,_,run_endRound (some .ret) p1,m4,hx,F5,_,rfl,.bool _⟩
         |exit id=>
          simp only[jumpOf,Option.some.injEq] at hj;subst hj;exact⟨_,_,run_endRound (some (.exit id)) p1,m4,hx,F5,_,rfl,.bool _⟩
         |goto l=>cases hj
         |panic hv=>cases hj
        ·cases hr
       ·cases hr
      ·cases hr
     ·cases hr
    ·cases hr
   ·cases hr
  ·cases hr
 ·cases hr
def roundL(sites:List LSite)(both:BothF):Nat→List AV→AHeap→Option (ARes×AHeap):=roundQ
 (fun q => match lsite sites q with
  |some s=>s.A both
  |none=>fun _ _=>none)
 (fun q => match lsite sites q with
  |some s=>s.B both
  |none=>fun _ _=>none)
theorem roundL_ok{P:Program}{sites:List LSite}(hs:∀s∈sites,s.ok P){both:BothF}(hc:BothAll P both)(w0:Base):RoundOK P w0 (roundL sites both):=by
 refine roundQ_ok (fun q b=>?_) (fun q b=>?_)
 ·cases hf : lsite sites q with
  |none=>exact fun _ _ _ _ _ e=>nomatch e
  |some s=>
   obtain⟨h1,h2,h3,_⟩:=lsite_some hf;rw[←h2, ←h3];exact LSite.okA (hs s h1) hc w0 (some b)
 ·cases hf : lsite sites q with
  |none=>exact fun _ _ _ _ _ e=>nomatch e
  |some s=>
   obtain⟨h1,h2,_,h4⟩:=lsite_some hf;rw[←h2, ←h4];exact LSite.okB (hs s h1) hc w0 (some b)
def worldL(sites:List LSite)(top:BothF→List (FuncId×FnT))(base:CallF):Nat→BothF:=worldB (fun both=>orF (callOf (top both)) base) (roundL sites)
theorem worldL_ok{P:Program}{sites:List LSite}(hs:∀s∈sites,s.ok P){top:BothF→List (FuncId×FnT)}(ht:∀both,BothAll P both→SaysAll P (callOf (top both))){base:CallF}(hb:SaysAll P base)(d:Nat):BothAll P (worldL sites top base d):=
 worldB_ok (fun _ hc=>orF_ok (ht _ hc) hb) (fun _ hc w0=>roundL_ok hs hc w0) d
section
variable {sites:List LSite}{top:BothF→List (FuncId×FnT)}{base:CallF}{d:Nat}{f:FuncId}{args:List AV}{h:AHeap}{x:ARes×AHeap}
theorem worldL_top(e:callOf (top (worldL sites top base d)) f args h=some x):worldL sites top base (d+1) false f args h=some x:=orF_l e
theorem worldL_base(e:callOf (top (worldL sites top base d)) f args h=none):worldL sites top base (d+1) false f args h=base f args h:=orF_r e
end
def recQ(s:LoopState)(j:AJump)(N:Nat)(c:Code)(t:T AV)(D:Nat):AObj:=.obj (.loop ⟨s,j,t,N,y16 c,y1d c,y18 c,D⟩)
theorem rngH_rec(N:Nat)(c:Code)(t:T AV)(h:AHeap):(rngH N c t h).get (h.next+1)=some (recQ .ready .none N c t h.next):=get_new_same _
theorem rngH_mark(N:Nat)(c:Code)(t:T AV)(h:AHeap):(rngH N c t h).get h.next=some (.obj .dfr):=by
 refine(get_new_other _ ?_).trans (get_new_same _);show h.next+1≠h.next;omega
theorem rngH_next(N:Nat)(c:Code)(t:T AV)(h:AHeap):(rngH N c t h).next=h.next+2:=rfl
theorem rngH_tch(S:List Nat)(N:Nat)(c:Code)(t:T AV)(h:AHeap):Tch S h (rngH N c t h):=(Tch.new S h _).trans (Tch.new S _ _)
def jumpZ(z:Int):AJump:=match decE (.ret (.int .i64 z)) with
 | .ret=>.ret
 | .exit id=>.exit id
 |_=>.none
def stZ(j:AJump):LoopState:=if j.isNone then .ready else .done
theorem jumpOf_decE(k:IntKind)(z:Int):jumpOf (decE (.ret (.int k z)))=some (jumpZ z):=by
 show jumpOf (match z with
  |0=>AExit.normal
  |1=>.ret
  |z=>.exit (z - 2).toNat)=some (match (match z with
  |0=>AExit.normal
  |1=>.ret
  |z=>.exit (z - 2).toNat) with
  | .ret=>AJump.ret
  | .exit id=>.exit id
  |_=>.none)
 split<;>rfl
section
variable {sites:List LSite}{both:BothF}{s:LSite}{b N D:Nat}{c:Code}{t t0:T AV}{h h1 h2:AHeap}{args vs ws:List AV}{z:Int}{j:AJump}
theorem round_L(hb:h.get b=some (recQ .ready j N c t0 D))(hs:∀st jj,lsite sites ⟨st,jj,t0,N,y16 c,y1d c,y18 c,D⟩=some s)(hp:putPs N (y16 c).toList args t0=some t)(hg:slotsC t s.sa=some vs)(ea:s.fa both vs h=some (.ret (.tup ws),h1))(k1:h1.get b=h.get b)(hg2:slotsC (Fr.tree (s.ts.zip ws)) s.ts=some ws)(eb:s.fb both ws (h1.put b (recQ .busy j N c t0 D))=some (.ret (.int .i64 z),h2))(k2:h2.get b=some (recQ .busy j N c t0 D)):
  roundL sites both b args h=some (.ret (.bool (jumpZ z).isNone),h2.put b (recQ (stZ (jumpZ z)) (jumpZ z) N c t0 D)):=by
 unfold roundL roundQ;unfold recQ at hb k2 eb ⊢;rw[hb];simp only[hp];rw[hs]
 have e1:s.A both ⟨t,[]⟩ h=some (.normal,⟨Fr.tree (s.ts.zip ws),[]⟩,h1):=by
  unfold LSite.A;simp only[hg,ea];rfl
 simp only[e1,midRound];rw[k1,hb]
 have e2:s.B both ⟨Fr.tree (s.ts.zip ws),[]⟩ (h1.put b (.obj (.loop ⟨.busy,j,t0,N,y16 c,y1d c,y18 c,D⟩)))=some (decE (.ret (.int .i64 z)),⟨Fr.tree [],[]⟩,h2):=by
  unfold LSite.B;simp only[hg2,eb];rfl
 simp only[e2,endRound,jumpOf_decE,k2];rfl
end
end
noncomputable section
open Go.RowKit
section
variable {P:Program}{both:BothF}{sites:List LSite}{s:LSite}{b N D:Nat}{c:Code}{t0:T AV}{h:AHeap}{args vs:List AV}{j:AJump}{st:LoopState}{Q:ARes→AHeap→Prop}
theorem dynB_yld(hb:h.get b=some (recQ st j N c t0 D))(hl:Nat.beq args.length (y16 c).size=true):dynB P both (.yld b) args h=both true b args h:=by
 have e:callV P h args (some (.yld b))=some (.round b args,h):=by
  show yieldV h args b=_;unfold yieldV;rw[hb];unfold recQ;simp only[hl,if_true]
 unfold dynB;rw[e]
theorem y2e{k:AHeap→R}(hk:Wp (k h) Q):Wp (marksK [] h k) Q:=hk
theorem y3f{k:AHeap→R}{ds:DefT}(hD:h.get D=some (.obj .dfr))(hk:Wp (marksK ds (h.put D (.obj .shut)) k) Q):Wp (marksK (dmark D::ds) h k) Q:=by
 unfold marksK at hk ⊢
 have e:marksH (dmark D::ds) h=marksH ds (h.put D (.obj .shut)):=by
  show (match h.get D with
   |some (.obj .dfr)=>marksH ds (h.put D (.obj .shut))
   |_=>none)=_
  rw[hD]
 rw[e];exact hk
theorem round_W{G:Int→AHeap→Prop}(hb:h.get b=some (recQ .ready j N c t0 D))(hs:∀st jj,lsite sites ⟨st,jj,t0,N,y16 c,y1d c,y18 c,D⟩=some s)(hg:((putPs N (y16 c).toList args t0).bind fun t=>slotsC t s.sa)=some vs)(ea : Wp (s.fa both vs h) fun r h1 => ∃ ws, r = .ret (.tup ws) ∧ h1.get b = h.get b ∧ slotsC (Fr.tree (s.ts.zip ws)) s.ts = some ws ∧
   Wp (s.fb both ws (h1.put b (recQ .busy j N c t0 D))) fun r2 h2=>∃z,r2=.ret (.int .i64 z)∧h2.get b=some (recQ .busy j N c t0 D)∧G z (h2.put b (recQ (stZ (jumpZ z)) (jumpZ z) N c t0 D))):
  ∃z h',roundL sites both b args h=some (.ret (.bool (jumpZ z).isNone),h')∧G z h':=by
 obtain⟨t,hp,hg⟩:=Option.bind_eq_some_iff.1 hg;obtain⟨_,h1,e1,ws,rfl,k1,g2,_,h2,e2,z,rfl,k2,hG⟩:=ea;exact⟨z,_,round_L hb hs hp hg e1 k1 g2 e2 k2,hG⟩
end
section
variable {P:Program}{both:BothF}{N:Nat}{c:Code}{t:T AV}{ds:DefT}{h h2:AHeap}{kn kr:AHeap→R}{ke:Nat→AHeap→R}{Q:ARes→AHeap→Prop}{g:FuncId}{first cap:List AV}{v:AV}{st:LoopState}{j:AJump}
theorem Wp.rng(hb:hasBody P g=true)(e:both false g (first++[.yld (h.next+1)]++cap) (rngH N c t h)=some (.ret v,h2))(hq:h2.get (h.next+1)=some (recQ st j N c t h.next))(hs:st≠ .busy)(hn:j=.none→Wp (kn (h2.put (h.next+1) (recQ .exhausted j N c t h.next))) Q)(hr:j=.ret→Wp (kr (h2.put (h.next+1) (recQ .exhausted j N c t h.next))) Q)(he:∀id,j=.exit id→Wp (ke id (h2.put (h.next+1) (recQ .exhausted j N c t h.next))) Q):Wp (rngK (rngX P both N (.fn g first cap) c t ds h) kn kr ke) Q:=by
 cases j with
 |none=>exact Wp.rngN hb e hq hs rfl (hn rfl)
 |ret=>exact Wp.rngR hb e hq hs rfl (hr rfl)
 |exit id=>exact Wp.rngE hb e hq hs rfl (he id rfl)
end
theorem y8{α:Type}{a:α}{K:α→R}{Q:ARes→AHeap→Prop}(hk:∀x,x=a→Wp (K x) Q):Wp (Abs.lett a K) Q:=hk a rfl
end
end Go.Proofs.Ytfcedccphhmdgaa.Abs
namespace Go.Proofs.Ytfcedccphhmdgaa
open Go.RowKit Abs
noncomputable def frame_All_1_L0b(both:BothF)(t0:AV)(t1:AV)(self:Int→AHeap→R)(t3:Int)(h_4:AHeap):R:=obind (ldCell h_4 t1) fun v8=>obind (avStr v8) fun t8=>obind (sliceS t8 t3 (lenS t8)) fun t10=>callN (both false 58 [strA t10] h_4) fun r11 h_10=>obind (extT 0 r11) fun v12=>obind (avStr v12) fun t12=>obind (extT 1 r11) fun v13=>obind (avInt .i64 v13) fun t13=>obind (extT 2 r11) fun v14=>obind (avInt .i64 v14) fun t14=>lett ((t14:Int) != 0) fun (t16:Bool)=>lett (fun (t23:Bool) (h_21:AHeap)=>ifB t23 (marksK [] h_21 fun h_24=>some (.ret (.tup []),h_24)) (lett (IntKind.i64.wrap (t3+t13)) fun (t26:Int)=>self t26 h_21)) fun j23=>ifB t16 (j23 true h_10) (callN (dynB Try.prog both t0 [.int .i64 t3,strA t12] h_10) fun r21 h_26=>obind (avBool r21) fun t21=>lett (!t21) fun (t22:Bool)=>j23 t22 h_26)
noncomputable def frame_All_1_L0(both:BothF)(t0:AV)(t1:AV):Nat→Int→AHeap→R:=iterR (fun _ _=>none) (frame_All_1_L0b both t0 t1)
theorem frame_All_1_L0_s(both:BothF)(t0:AV)(t1:AV)(m:Nat):frame_All_1_L0 both t0 t1 (m+1)=frame_All_1_L0b both t0 t1 (frame_All_1_L0 both t0 t1 m):=rfl
noncomputable def frame_All_1(both:BothF)(n:Nat)(t0:AV)(t1:AV)(h:AHeap):R:=frame_All_1_L0 both t0 t1 n 0 h
set_option maxHeartbeats 4000000 in
set_option maxRecDepth 20000 in
theorem frame_All_1_ok{both:BothF}(hc:BothAll Try.prog both){n:Nat}{t0:AV}{t1:AV}{h:AHeap}{rR:ARes}{hR:AHeap}(hF:frame_All_1 both n t0 t1 h=some (rR,hR)):Says Try.prog 57 [t0,t1] h rR hR:=by
 unfold frame_All_1 at hF;refine says_ofM (fn:=Try.f57) Try.func57 (c:=codeOf Try.f57) (by kernel_rfl) (by kernel_rfl) (fun w0 m0=>WR.weaken (l':=[(0,t0),(1,t1)]) (y4 (by kernel_rfl) (y4 (by kernel_rfl) (y9 _))) (WR.seqK (by kernel_rfl) (fun K1 n1 e1 q1 p1=>WR.region (by kernel_rfl) (WLR.val (d:=(some 3)) (v:=.int .i64 0) (h':=h) (by kernel_rfl) (by kernel_rfl) (by kernel_rfl) (WLR.nil (by kernel_rfl) (Go.weaken (l':=[(0,t0),(1,t1),(3,.int .i64 0)]) (y4 (by kernel_rfl) (y4 (by kernel_rfl) (y4 (by kernel_rfl) (y9 _)))) (n1 (WR.blockK (by kernel_rfl) (fun K2 n2 s2 o2 q2 p2=>WR.loopK (by kernel_rfl) (fun I3 K3 b3 n3 e3 q3 p3=>?_))))))))))
 have L3:∀(m:Nat) (t3:Int) (h_4:AHeap),frame_All_1_L0 both t0 t1 m t3 h_4=some (rR,hR)→Go w0 m0 (Func.ntmps Try.f57) I3 [(0,t0),(1,t1),(3,.int .i64 t3)] [] h_4:=by
  intro m
  induction m with
  |zero=>intro t3 h_4 hF;cases hF
  |succ m ih3=>
   intro t3 h_4 hF;rw[frame_All_1_L0_s] at hF;unfold frame_All_1_L0b at hF;refine b3 (WR.blockK (by kernel_rfl) (fun K5 n5 s5 o5 q5 p5=>WR.seqK (by kernel_rfl) (fun K6 n6 e6 q6 p6=>WR.region (by kernel_rfl) ?_)))
   replace hF:=obind_some hF;obtain⟨v8,e7,hF⟩:=hF
   replace hF:=obind_some hF;obtain⟨t8,c8,hF⟩:=hF
   have c8:=avStr_some c8;subst c8;refine WLR.val (d:=(some 8)) (v:=strA t8) (h':=h_4) (by kernel_rfl) (by kernel_rfl) (Eq.trans (by kernel_rfl) (load_cell (P:=Try.prog) (h:=h_4) (t:=9) (by kernel_rfl) e7)) (WLR.val (d:=(some 9)) (v:=.int .i64 t3) (h':=h_4) (by kernel_rfl) (by kernel_rfl) (by kernel_rfl) ?_)
   replace hF:=obind_some hF;obtain⟨t10,e9,hF⟩:=hF
   refine WLR.val (d:=(some 10)) (v:=strA t10) (h':=h_4) (by kernel_rfl) (by kernel_rfl) (Eq.trans (by kernel_rfl) (slice_str (P:=Try.prog) (h:=h_4) (t:=9) (A:=(some (.int .i64 t3))) (B:=none) (by kernel_rfl) (.inl ⟨_,rfl⟩) (.inr ⟨rfl,rfl⟩) e9)) ?_
   replace hF:=callN_some hF;obtain⟨r11,h_10,e11,hF⟩:=hF
   refine WLR.call (hc.says.ok w0) (d:=(some 11)) (by kernel_rfl) (by kernel_rfl) (by kernel_rfl) e11 (WLR.val (d:=(some 7)) (v:=r11) (h':=h_10) (by kernel_rfl) (by kernel_rfl) (by kernel_rfl) ?_)
   replace hF:=obind_some hF;obtain⟨v12,e12,hF⟩:=hF
   replace hF:=obind_some hF;obtain⟨t12,c13,hF⟩:=hF
   have c13:=avStr_some c13;subst c13;refine WLR.val (d:=(some 12)) (v:=strA t12) (h':=h_10) (by kernel_rfl) (by kernel_rfl) (Eq.trans (by kernel_rfl) (extract_tup (h:=h_10) e12)) ?_
   replace hF:=obind_some hF;obtain⟨v13,e14,hF⟩:=hF
   replace hF:=obind_some hF;obtain⟨t13,c15,hF⟩:=hF
   have c15:=avInt_some c15;subst c15;refine WLR.val (d:=(some 13)) (v:=.int .i64 t13) (h':=h_10) (by kernel_rfl) (by kernel_rfl) (Eq.trans (by kernel_rfl) (extract_tup (h:=h_10) e14)) ?_
   replace hF:=obind_some hF;obtain⟨v14,e16,hF⟩:=hF
   replace hF:=obind_some hF;obtain⟨t14,c17,hF⟩:=hF
   have c17:=avInt_some c17;subst c17;refine WLR.val (d:=(some 14)) (v:=.int .i64 t14) (h':=h_10) (by kernel_rfl) (by kernel_rfl) (Eq.trans (by kernel_rfl) (extract_tup (h:=h_10) e16)) (WLR.val (d:=(some 4)) (v:=strA t12) (h':=h_10) (by kernel_rfl) (by kernel_rfl) (by kernel_rfl) (WLR.val (d:=(some 5)) (v:=.int .i64 t13) (h':=h_10) (by kernel_rfl) (by kernel_rfl) (by kernel_rfl) (WLR.val (d:=(some 6)) (v:=.int .i64 t14) (h':=h_10) (by kernel_rfl) (by kernel_rfl) (by kernel_rfl) (WLR.nil (by kernel_rfl) (Go.weaken (l':=[(0,t0),(1,t1),(3,.int .i64 t3),(4,strA t12),(5,.int .i64 t13),(6,.int .i64 t14)]) (y4 (by kernel_rfl) (y4 (by kernel_rfl) (y4 (by kernel_rfl) (y4 (by kernel_rfl) (y4 (by kernel_rfl) (y4 (by kernel_rfl) (y9 _))))))) (n6 (WR.seqK (by kernel_rfl) (fun K18 n18 e18 q18 p18=>WR.seqK (by kernel_rfl) (fun K19 n19 e19 q19 p19=>WR.region (by kernel_rfl) (WLR.val (d:=(some 15)) (v:=.int .i64 t14) (h':=h_10) (by kernel_rfl) (by kernel_rfl) (by kernel_rfl) ?_))))))))))
   replace hF:=lett_some hF;obtain⟨t16,e20,hF⟩:=hF
   refine WLR.val (d:=(some 16)) (v:=.bool t16) (h':=h_10) (by kernel_rfl) (by kernel_rfl) (val_of AV.bool e20 (by kernel_rfl)) (WLR.val (d:=(some 17)) (v:=.bool t16) (h':=h_10) (by kernel_rfl) (by kernel_rfl) (by kernel_rfl) ?_)
   replace hF:=lett_some hF;obtain⟨j23,e22,hF⟩:=hF
   have J23:∀(t23:Bool) (h_21:AHeap),j23 t23 h_21=some (rR,hR)→WLR Try.prog w0 m0 (Func.ntmps Try.f57) none 0 (Code.ops (y6 (y6 (y3 (y6 (y6 (y6 (y3 (codeOf Try.f57))))))))) 9 K19 [(0,t0),(1,t1),(3,.int .i64 t3),(5,.int .i64 t13),(23,.bool t23)] [] h_21:=by
    intro t23 h_21 hF;rw[e22] at hF;refine WLR.nil (by kernel_rfl) (Go.weaken (l':=[(0,t0),(1,t1),(3,.int .i64 t3),(5,.int .i64 t13),(23,.bool t23)]) (y4 (by kernel_rfl) (y4 (by kernel_rfl) (y4 (by kernel_rfl) (y4 (by kernel_rfl) (y4 (by kernel_rfl) (y9 _)))))) (n19 ?_))
    cases t23 with
    |true=>
     replace hF:=ifB_t hF
     refine WR.cond_true (by kernel_rfl) (by kernel_rfl) (WR.ret (by kernel_rfl) (q18 (q5 (q3 (q2 (y28 hF (fun h_24 hF=>?_)))))));obtain⟨hF,hF2⟩:=ret_inj hF;subst hF;subst hF2;exact ret_of (rs:=[]) (vs:=[]) (by kernel_rfl) res_nil (by kernel_rfl)
    |false=>
     replace hF:=ifB_f hF
     refine WR.cond_false (by kernel_rfl) (by kernel_rfl) (WR.skip (by kernel_rfl) (n18 (WR.region (by kernel_rfl) (WLR.val (d:=(some 24)) (v:=.int .i64 t3) (h':=h_21) (by kernel_rfl) (by kernel_rfl) (by kernel_rfl) (WLR.val (d:=(some 25)) (v:=.int .i64 t13) (h':=h_21) (by kernel_rfl) (by kernel_rfl) (by kernel_rfl) ?_)))))
     replace hF:=lett_some hF;obtain⟨t26,e25,hF⟩:=hF
     exact WLR.val (d:=(some 26)) (v:=.int .i64 t26) (h':=h_21) (by kernel_rfl) (by kernel_rfl) (val_of (AV.int .i64) e25 (by kernel_rfl)) (WLR.val (d:=(some 3)) (v:=.int .i64 t26) (h':=h_21) (by kernel_rfl) (by kernel_rfl) (by kernel_rfl) (WLR.nil (by kernel_rfl) (Go.weaken (l':=[(0,t0),(1,t1),(3,.int .i64 t26)]) (y4 (by kernel_rfl) (y4 (by kernel_rfl) (y4 (by kernel_rfl) (y9 _)))) (n5 (n3 (Go.weaken (y4 (by kernel_rfl) (y4 (by kernel_rfl) (y4 (by kernel_rfl) (y9 _)))) (ih3 _ _ hF)))))))
   cases t16 with
   |true=>
    replace hF:=ifB_t hF
    exact WLR.not (d:=(some 18)) (by kernel_rfl) (by kernel_rfl) (WLR.not (d:=(some 19)) (by kernel_rfl) (by kernel_rfl) (WLR.not (d:=(some 20)) (by kernel_rfl) (by kernel_rfl) (WLR.not (d:=(some 21)) (by kernel_rfl) (by kernel_rfl) (WLR.not (d:=(some 22)) (by kernel_rfl) (by kernel_rfl) (WLR.val (d:=(some 23)) (v:=.bool true) (h':=h_10) (by kernel_rfl) (by kernel_rfl) (by kernel_rfl) (WLR.weaken (y4 (by kernel_rfl) (y4 (by kernel_rfl) (y4 (by kernel_rfl) (y4 (by kernel_rfl) (y4 (by kernel_rfl) (y9 _)))))) (J23 _ _ hF)))))))
   |false=>
    replace hF:=ifB_f hF
    refine WLR.val (d:=(some 18)) (v:=t0) (h':=h_10) (by kernel_rfl) (by kernel_rfl) (by kernel_rfl) (WLR.val (d:=(some 19)) (v:=.int .i64 t3) (h':=h_10) (by kernel_rfl) (by kernel_rfl) (by kernel_rfl) (WLR.val (d:=(some 20)) (v:=strA t12) (h':=h_10) (by kernel_rfl) (by kernel_rfl) (by kernel_rfl) ?_))
    replace hF:=callN_some hF;obtain⟨r21,h_26,e27,hF⟩:=hF
    replace hF:=obind_some hF;obtain⟨t21,c28,hF⟩:=hF
    have c28:=avBool_some c28;subst c28;refine WLR.dyn (d:=(some 21)) hc e27 ?_
    replace hF:=lett_some hF;obtain⟨t22,e29,hF⟩:=hF
    exact WLR.val (d:=(some 22)) (v:=.bool t22) (h':=h_26) (by kernel_rfl) (by kernel_rfl) (val_of AV.bool e29 (by kernel_rfl)) (WLR.val (d:=(some 23)) (v:=.bool t22) (h':=h_26) (by kernel_rfl) (by kernel_rfl) (by kernel_rfl) (WLR.weaken (y4 (by kernel_rfl) (y4 (by kernel_rfl) (y4 (by kernel_rfl) (y4 (by kernel_rfl) (y4 (by kernel_rfl) (y9 _)))))) (J23 _ _ hF)))
 exact Go.weaken (y4 (by kernel_rfl) (y4 (by kernel_rfl) (y4 (by kernel_rfl) (y9 _)))) (L3 _ _ _ hF)
noncomputable def frame_All_1_fn(both:BothF)(n:Nat):FnT:=fun args h=>match args with
 |[x0,x1]=>frame_All_1 both n x0 x1 h
 |_=>none
set_option maxRecDepth 100000 in
theorem frame_All_1_fn_eq(both:BothF)(n:Nat)(t0:AV)(t1:AV)(h:AHeap):frame_All_1_fn both n [t0,t1] h=frame_All_1 both n t0 t1 h:=
 rfl
theorem frame_All_1_holds{both:BothF}(hc:BothAll Try.prog both)(n:Nat):Holds Try.prog 57 (frame_All_1_fn both n):=by
 intro args h r h2 e;unfold frame_All_1_fn at e
 split at e
 ·exact frame_All_1_ok hc (n:=n) e
 ·cases e
noncomputable def journal_Journal_All_1_L0b(both:BothF)(t0:AV)(v10:AV)(t11:Int)(k15:AHeap→R)(self:Int→AHeap→R)(t12:Int)(h_19:AHeap):R:=lett (decide (t12<t11)) fun (t13:Bool)=>ifB t13 (obind (idxP 5 v10 t12) fun t14=>obind (ldRow h_19 5 t14) fun t15=>lett (newH h_19 56 [.int .i64 0,.int .i64 0,.int .i64 0,.int .i64 0,.str 0 0]) fun h_28=>obind (stRow h_28 5 t15 (newP h_19)) fun h_30=>obind (ldRow h_30 5 (newP h_19)) fun t17=>callN (dynB Try.prog both t0 [.agg t17] h_30) fun r18 h_34=>obind (avBool r18) fun t18=>lett (!t18) fun (t19:Bool)=>ifB t19 (marksK [] h_34 fun h_38=>some (.ret (.tup []),h_38)) (lett (IntKind.i64.wrap (t12+1)) fun (t20:Int)=>self t20 h_34)) (k15 h_19)
noncomputable def journal_Journal_All_1_L0(both:BothF)(t0:AV)(v10:AV)(t11:Int)(k15:AHeap→R):Nat→Int→AHeap→R:=iterR (fun _ _=>none) (journal_Journal_All_1_L0b both t0 v10 t11 k15)
theorem journal_Journal_All_1_L0_s(both:BothF)(t0:AV)(v10:AV)(t11:Int)(k15:AHeap→R)(m:Nat):journal_Journal_All_1_L0 both t0 v10 t11 k15 (m+1)=journal_Journal_All_1_L0b both t0 v10 t11 k15 (journal_Journal_All_1_L0 both t0 v10 t11 k15 m):=rfl
noncomputable def journal_Journal_All_1(both:BothF)(n:Nat)(t0:AV)(t1:AV)(h:AHeap):R:=obind (ldCell h t1) fun v5=>outK (opBin Try.prog h .eql 67 true (some v5) (some AV.nilp)) fun v6 h_4=>obind (avBool v6) fun t6=>ifB t6 (marksK [] h_4 fun h_7=>some (.ret (.tup []),h_7)) (obind (ldCell h_4 t1) fun v7=>obind (nilC v7) fun t8=>obind (fldP 1 t8) fun t9=>obind (ldCell h_4 t9) fun v10=>obind (lenL v10) fun t11=>lett (fun (h_16:AHeap)=>marksK [] h_16 fun h_17=>some (.ret (.tup []),h_17)) fun k15=>journal_Journal_All_1_L0 both t0 v10 t11 k15 n 0 h_4)
set_option maxHeartbeats 4000000 in
set_option maxRecDepth 20000 in
theorem journal_Journal_All_1_ok{both:BothF}(hc:BothAll Try.prog both){n:Nat}{t0:AV}{t1:AV}{h:AHeap}{rR:ARes}{hR:AHeap}(hF:journal_Journal_All_1 both n t0 t1 h=some (rR,hR)):Says Try.prog 56 [t0,t1] h rR hR:=by
 unfold journal_Journal_All_1 at hF;refine says_ofM (fn:=Try.f56) Try.func56 (c:=codeOf Try.f56) (by kernel_rfl) (by kernel_rfl) (fun w0 m0=>WR.weaken (l':=[(0,t0),(1,t1)]) (y4 (by kernel_rfl) (y4 (by kernel_rfl) (y9 _))) (WR.seqK (by kernel_rfl) (fun K1 n1 e1 q1 p1=>WR.seqK (by kernel_rfl) (fun K2 n2 e2 q2 p2=>WR.region (by kernel_rfl) ?_))))
 replace hF:=obind_some hF;obtain⟨v5,e3,hF⟩:=hF
 refine WLR.val (d:=(some 5)) (v:=v5) (h':=h) (by kernel_rfl) (by kernel_rfl) (Eq.trans (by kernel_rfl) (load_cell (P:=Try.prog) (h:=h) (t:=67) (by kernel_rfl) e3)) ?_
 replace hF:=outK_some hF;obtain⟨v6,h_4,e5,hF⟩:=hF
 replace hF:=obind_some hF;obtain⟨t6,c6,hF⟩:=hF
 have c6:=avBool_some c6;subst c6;refine WLR.val (d:=(some 6)) (v:=.bool t6) (h':=h_4) (by kernel_rfl) (by kernel_rfl) (Eq.trans (by kernel_rfl) e5) (WLR.nil (by kernel_rfl) (Go.weaken (l':=[(0,t0),(1,t1),(6,.bool t6)]) (y4 (by kernel_rfl) (y4 (by kernel_rfl) (y4 (by kernel_rfl) (y9 _)))) (n2 ?_)))
 cases t6 with
 |true=>
  replace hF:=ifB_t hF
  refine WR.cond_true (by kernel_rfl) (by kernel_rfl) (WR.ret (by kernel_rfl) (q1 (y28 hF (fun h_7 hF=>?_))));obtain⟨hF,hF2⟩:=ret_inj hF;subst hF;subst hF2;exact ret_of (rs:=[]) (vs:=[]) (by kernel_rfl) res_nil (by kernel_rfl)
 |false=>
  replace hF:=ifB_f hF
  refine WR.cond_false (by kernel_rfl) (by kernel_rfl) (WR.skip (by kernel_rfl) (n1 (WR.seqK (by kernel_rfl) (fun K8 n8 e8 q8 p8=>WR.region (by kernel_rfl) ?_))))
  replace hF:=obind_some hF;obtain⟨v7,e9,hF⟩:=hF
  refine WLR.val (d:=(some 7)) (v:=v7) (h':=h_4) (by kernel_rfl) (by kernel_rfl) (Eq.trans (by kernel_rfl) (load_cell (P:=Try.prog) (h:=h_4) (t:=67) (by kernel_rfl) e9)) ?_
  replace hF:=obind_some hF;obtain⟨t8,e10,hF⟩:=hF
  refine WLR.val (d:=(some 8)) (v:=t8) (h':=h_4) (by kernel_rfl) (by kernel_rfl) (Eq.trans (by kernel_rfl) (nil_chk (h:=h_4) e10)) ?_
  replace hF:=obind_some hF;obtain⟨t9,e11,hF⟩:=hF
  refine WLR.val (d:=(some 9)) (v:=t9) (h':=h_4) (by kernel_rfl) (by kernel_rfl) (Eq.trans (by kernel_rfl) (field_ptr (P:=Try.prog) (h:=h_4) (s:=91) (f:=1) (by kernel_rfl) e11)) ?_
  replace hF:=obind_some hF;obtain⟨v10,e12,hF⟩:=hF
  refine WLR.val (d:=(some 10)) (v:=v10) (h':=h_4) (by kernel_rfl) (by kernel_rfl) (Eq.trans (by kernel_rfl) (load_cell (P:=Try.prog) (h:=h_4) (t:=45) (by kernel_rfl) e12)) ?_
  replace hF:=obind_some hF;obtain⟨t11,e13,hF⟩:=hF
  refine WLR.val (d:=(some 11)) (v:=.int .i64 t11) (h':=h_4) (by kernel_rfl) (by kernel_rfl) (Eq.trans (by kernel_rfl) (len_row (P:=Try.prog) (h:=h_4) (t:=45) (e':=56) (by kernel_rfl) e13)) (WLR.val (d:=(some 12)) (v:=.int .i64 0) (h':=h_4) (by kernel_rfl) (by kernel_rfl) (by kernel_rfl) (WLR.nil (by kernel_rfl) (Go.weaken (l':=[(0,t0),(10,v10),(11,.int .i64 t11),(12,.int .i64 0)]) (y4 (by kernel_rfl) (y4 (by kernel_rfl) (y4 (by kernel_rfl) (y4 (by kernel_rfl) (y9 _))))) (n8 ?_))))
  replace hF:=lett_some hF;obtain⟨k15,e15,hF⟩:=hF
  have J15:∀(h_16:AHeap),k15 h_16=some (rR,hR)→Go w0 m0 (Func.ntmps Try.f56) (FinM Try.prog Try.f56 w0 m0 rR hR .normal) [] [] h_16:=by
   intro h_16 hF;rw[e15] at hF;refine y45 hF (fun h_17 hF=>?_);obtain⟨hF,hF2⟩:=ret_inj hF;subst hF;subst hF2;exact ret_of (rs:=[]) (vs:=[]) (by kernel_rfl) res_nil (by kernel_rfl)
  refine WR.blockK (by kernel_rfl) (fun K14 n14 s14 o14 q14 p14=>WR.loopK (by kernel_rfl) (fun I18 K18 b18 n18 e18 q18 p18=>?_))
  have L18:∀(m:Nat) (t12:Int) (h_19:AHeap),journal_Journal_All_1_L0 both t0 v10 t11 k15 m t12 h_19=some (rR,hR)→Go w0 m0 (Func.ntmps Try.f56) I18 [(0,t0),(10,v10),(11,.int .i64 t11),(12,.int .i64 t12)] [] h_19:=by
   intro m
   induction m with
   |zero=>intro t12 h_19 hF;cases hF
   |succ m ih18=>
    intro t12 h_19 hF;rw[journal_Journal_All_1_L0_s] at hF;unfold journal_Journal_All_1_L0b at hF;refine b18 (WR.seqK (by kernel_rfl) (fun K20 n20 e20 q20 p20=>WR.region (by kernel_rfl) ?_))
    replace hF:=lett_some hF;obtain⟨t13,e21,hF⟩:=hF
    refine WLR.val (d:=(some 13)) (v:=.bool t13) (h':=h_19) (by kernel_rfl) (by kernel_rfl) (val_of AV.bool e21 (by kernel_rfl)) (WLR.nil (by kernel_rfl) (Go.weaken (l':=[(0,t0),(10,v10),(11,.int .i64 t11),(12,.int .i64 t12),(13,.bool t13)]) (y4 (by kernel_rfl) (y4 (by kernel_rfl) (y4 (by kernel_rfl) (y4 (by kernel_rfl) (y4 (by kernel_rfl) (y9 _)))))) (n20 (WR.seqK (by kernel_rfl) (fun K22 n22 e22 q22 p22=>?_)))))
    cases t13 with
    |true=>
     replace hF:=ifB_t hF
     refine WR.cond_true (by kernel_rfl) (by kernel_rfl) (WR.skip (by kernel_rfl) (n22 (WR.seqK (by kernel_rfl) (fun K23 n23 e23 q23 p23=>WR.blockK (by kernel_rfl) (fun K24 n24 s24 o24 q24 p24=>WR.seqK (by kernel_rfl) (fun K25 n25 e25 q25 p25=>WR.region (by kernel_rfl) ?_))))))
     replace hF:=obind_some hF;obtain⟨t14,e26,hF⟩:=hF
     refine WLR.val (d:=(some 14)) (v:=t14) (h':=h_19) (by kernel_rfl) (by kernel_rfl) (Eq.trans (by kernel_rfl) (index_row (P:=Try.prog) (h:=h_19) (t:=45) (e':=56) (k:=.i64) (by kernel_rfl) (by kernel_rfl) (by kernel_rfl) e26)) ?_
     replace hF:=obind_some hF;obtain⟨t15,e27,hF⟩:=hF
     refine WLR.val (d:=(some 15)) (v:=.agg t15) (h':=h_19) (by kernel_rfl) (by kernel_rfl) (Eq.trans (by kernel_rfl) (load_row (P:=Try.prog) (h:=h_19) (t:=56) (by kernel_rfl) (by kernel_rfl) e27)) ?_
     replace hF:=lett_some hF;obtain⟨h_28,e29,hF⟩:=hF
     refine WLR.val (d:=(some 4)) (v:=(newP h_19)) (h':=h_28) (by kernel_rfl) (by kernel_rfl) (val_ofH e29 (by kernel_rfl)) ?_
     replace hF:=obind_some hF;obtain⟨h_30,e31,hF⟩:=hF
     refine WLR.eff (h':=h_30) (by kernel_rfl) (by kernel_rfl) (Eq.trans (by kernel_rfl) (store_row (P:=Try.prog) (h:=h_28) (t:=56) (v:=(.agg t15)) (by kernel_rfl) (by kernel_rfl) e31)) (WLR.nil (by kernel_rfl) (Go.weaken (l':=[(0,t0),(4,(newP h_19)),(10,v10),(11,.int .i64 t11),(12,.int .i64 t12)]) (y4 (by kernel_rfl) (y4 (by kernel_rfl) (y4 (by kernel_rfl) (y4 (by kernel_rfl) (y4 (by kernel_rfl) (y9 _)))))) (n25 (WR.seqK (by kernel_rfl) (fun K32 n32 e32 q32 p32=>WR.region (by kernel_rfl) (WLR.val (d:=(some 16)) (v:=t0) (h':=h_30) (by kernel_rfl) (by kernel_rfl) (by kernel_rfl) ?_))))))
     replace hF:=obind_some hF;obtain⟨t17,e33,hF⟩:=hF
     refine WLR.val (d:=(some 17)) (v:=.agg t17) (h':=h_30) (by kernel_rfl) (by kernel_rfl) (Eq.trans (by kernel_rfl) (load_row (P:=Try.prog) (h:=h_30) (t:=56) (by kernel_rfl) (by kernel_rfl) e33)) ?_
     replace hF:=callN_some hF;obtain⟨r18,h_34,e35,hF⟩:=hF
     replace hF:=obind_some hF;obtain⟨t18,c36,hF⟩:=hF
     have c36:=avBool_some c36;subst c36;refine WLR.dyn (d:=(some 18)) hc e35 ?_
     replace hF:=lett_some hF;obtain⟨t19,e37,hF⟩:=hF
     refine WLR.val (d:=(some 19)) (v:=.bool t19) (h':=h_34) (by kernel_rfl) (by kernel_rfl) (val_of AV.bool e37 (by kernel_rfl)) (WLR.nil (by kernel_rfl) (Go.weaken (l':=[(0,t0),(10,v10),(11,.int .i64 t11),(12,.int .i64 t12),(19,.bool t19)]) (y4 (by kernel_rfl) (y4 (by kernel_rfl) (y4 (by kernel_rfl) (y4 (by kernel_rfl) (y4 (by kernel_rfl) (y9 _)))))) (n32 ?_)))
     cases t19 with
     |true=>
      replace hF:=ifB_t hF
      refine WR.cond_true (by kernel_rfl) (by kernel_rfl) (WR.ret (by kernel_rfl) (q24 (q23 (q18 (q14 (y28 hF (fun h_38 hF=>?_)))))));obtain⟨hF,hF2⟩:=ret_inj hF;subst hF;subst hF2;exact ret_of (rs:=[]) (vs:=[]) (by kernel_rfl) res_nil (by kernel_rfl)
     |false=>
      replace hF:=ifB_f hF
      refine WR.cond_false (by kernel_rfl) (by kernel_rfl) (WR.skip (by kernel_rfl) (n24 (n23 (WR.region (by kernel_rfl) ?_))))
      replace hF:=lett_some hF;obtain⟨t20,e39,hF⟩:=hF
      exact WLR.val (d:=(some 20)) (v:=.int .i64 t20) (h':=h_34) (by kernel_rfl) (by kernel_rfl) (val_of (AV.int .i64) e39 (by kernel_rfl)) (WLR.val (d:=(some 12)) (v:=.int .i64 t20) (h':=h_34) (by kernel_rfl) (by kernel_rfl) (by kernel_rfl) (WLR.nil (by kernel_rfl) (Go.weaken (l':=[(0,t0),(10,v10),(11,.int .i64 t11),(12,.int .i64 t20)]) (y4 (by kernel_rfl) (y4 (by kernel_rfl) (y4 (by kernel_rfl) (y4 (by kernel_rfl) (y9 _))))) (n18 (Go.weaken (y4 (by kernel_rfl) (y4 (by kernel_rfl) (y4 (by kernel_rfl) (y4 (by kernel_rfl) (y9 _))))) (ih18 _ _ hF))))))
    |false=>
     replace hF:=ifB_f hF
     exact WR.cond_false (by kernel_rfl) (by kernel_rfl) (WR.exit (by kernel_rfl) (e22 (e18 (s14 (by kernel_rfl) (Go.weaken (y9 _) (J15 _ hF))))))
  exact Go.weaken (y4 (by kernel_rfl) (y4 (by kernel_rfl) (y4 (by kernel_rfl) (y4 (by kernel_rfl) (y9 _))))) (L18 _ _ _ hF)
noncomputable def journal_Journal_All_1_fn(both:BothF)(n:Nat):FnT:=fun args h=>match args with
 |[x0,x1]=>journal_Journal_All_1 both n x0 x1 h
 |_=>none
set_option maxRecDepth 100000 in
theorem journal_Journal_All_1_fn_eq(both:BothF)(n:Nat)(t0:AV)(t1:AV)(h:AHeap):journal_Journal_All_1_fn both n [t0,t1] h=journal_Journal_All_1 both n t0 t1 h:=
 rfl
theorem journal_Journal_All_1_holds{both:BothF}(hc:BothAll Try.prog both)(n:Nat):Holds Try.prog 56 (journal_Journal_All_1_fn both n):=by
 intro args h r h2 e;unfold journal_Journal_All_1_fn at e
 split at e
 ·exact journal_Journal_All_1_ok hc (n:=n) e
 ·cases e
noncomputable def journal_Journal_read_R0A(_:BothF)(_:Nat)(t2:AV)(t5:AV)(t12:Int)(t13:Bytes)(h:AHeap):R:=some (.ret (.tup [t2,t5,.int .i64 t12,strA t13]),h)
set_option maxHeartbeats 4000000 in
set_option maxRecDepth 20000 in
theorem journal_Journal_read_R0A_ok{both:BothF}(_:BothAll Try.prog both){n:Nat}{t2:AV}{t5:AV}{t12:Int}{t13:Bytes}{h:AHeap}{rR:ARes}{hR:AHeap}(hF:journal_Journal_read_R0A both n t2 t5 t12 t13 h=some (rR,hR)){w0:Base}{m0:Map}{rd:Option Nat}{nR:Nat}{ds:DefT}:WR Try.prog w0 m0 (Func.ntmps Try.f33) rd nR (y1d (y6 (y3 (y6 (y3 (y3 (codeOf Try.f33))))))) (Post w0 m0 (Func.ntmps Try.f33) .normal ⟨Fr.tree (tupFr [2,5,6,7] rR),ds⟩ hR) [(2,t2),(5,t5),(12,.int .i64 t12),(13,strA t13)] ds h:=by
 unfold journal_Journal_read_R0A at hF;refine WR.seqK (by kernel_rfl) (fun K23 n23 e23 q23 p23=>WR.region (by kernel_rfl) (WLR.val (d:=(some 6)) (v:=.int .i64 t12) (h':=h) (by kernel_rfl) (by kernel_rfl) (by kernel_rfl) (WLR.nil (by kernel_rfl) (Go.weaken (l':=[(2,t2),(5,t5),(6,.int .i64 t12),(13,strA t13)]) (y4 (by kernel_rfl) (y4 (by kernel_rfl) (y4 (by kernel_rfl) (y4 (by kernel_rfl) (y9 _))))) (n23 (WR.region (by kernel_rfl) (WLR.val (d:=(some 7)) (v:=strA t13) (h':=h) (by kernel_rfl) (by kernel_rfl) (by kernel_rfl) (WLR.nil (by kernel_rfl) (Go.weaken (l':=[(2,t2),(5,t5),(6,.int .i64 t12),(7,strA t13)]) (y4 (by kernel_rfl) (y4 (by kernel_rfl) (y4 (by kernel_rfl) (y4 (by kernel_rfl) (y9 _))))) ?_)))))))));obtain⟨hF,hF2⟩:=ret_inj hF;subst hF;subst hF2;exact y3c (l':=[(2,t2),(5,t5),(6,.int .i64 t12),(7,strA t13)]) (y4 (by kernel_rfl) (y4 (by kernel_rfl) (y4 (by kernel_rfl) (y4 (by kernel_rfl) (y9 _)))))
noncomputable def journal_Journal_read_R0A_fn(both:BothF)(n:Nat):FnT:=fun args h=>match args with
 |[x2,x5,x12,x13]=>obind (avInt .i64 x12) fun t12=>obind (avStr x13) fun t13=>journal_Journal_read_R0A both n x2 x5 t12 t13 h
 |_=>none
set_option maxRecDepth 100000 in
theorem journal_Journal_read_R0A_fn_eq(both:BothF)(n:Nat)(t2:AV)(t5:AV)(t12:Int)(t13:Bytes)(h:AHeap):journal_Journal_read_R0A_fn both n [t2,t5,.int .i64 t12,strA t13] h=journal_Journal_read_R0A both n t2 t5 t12 t13 h:=
 (Eq.trans (obind_eq (fun t12=>obind (avStr (strA t13)) fun t13=>journal_Journal_read_R0A both n t2 t5 t12 t13 h) (avInt_int .i64 t12)) (Eq.trans (obind_eq (fun t13=>journal_Journal_read_R0A both n t2 t5 t12 t13 h) (avStr_str t13)) rfl))
noncomputable def journal_Journal_read_R0B(both:BothF)(_:Nat)(t2:AV)(t5:AV)(t6:Int)(t7:Bytes)(h:AHeap):R:=callN (both false 46 [strA t7] h) fun r16 h_26=>obind (extT 0 r16) fun v17=>obind (avAgg v17) fun t17=>obind (extT 1 r16) fun v18=>obind (avBool v18) fun t18=>lett (newH h_26 56 [.int .i64 0,.int .i64 0,.int .i64 0,.int .i64 0,.str 0 0]) fun h_32=>obind (stRow h_32 5 t17 (newP h_26)) fun h_34=>lett (!t18) fun (t20:Bool)=>lett (fun (t26:Bool) (h_39:AHeap)=>ifB t26 (some (.ret (.int .i64 2),h_39)) (obind (ldCell h_39 t2) fun v27=>obind (ldRow h_39 5 (newP h_26)) fun t28=>callN (both false 48 [v27,.agg t28] h_39) fun _ h_45=>lett (IntKind.i64.wrap (t6+(lenS t7))) fun (t33:Int)=>lett (IntKind.i64.wrap (t33+12)) fun (t34:Int)=>obind (stRow h_45 1 [.int .i64 t34] t5) fun h_49=>some (.ret (.int .i64 0),h_49))) fun j26=>ifB t20 (j26 true h_34) (obind (ldCell h_34 t2) fun v22=>obind (ldRow h_34 5 (newP h_26)) fun t23=>callN (both false 47 [v22,.agg t23] h_34) fun r24 h_53=>obind (avInt .i64 r24) fun t24=>lett ((t24:Int) != 0) fun (t25:Bool)=>j26 t25 h_53)
set_option maxHeartbeats 4000000 in
set_option maxRecDepth 20000 in
theorem journal_Journal_read_R0B_ok{both:BothF}(hc:BothAll Try.prog both){n:Nat}{t2:AV}{t5:AV}{t6:Int}{t7:Bytes}{h:AHeap}{rR:ARes}{hR:AHeap}(hF:journal_Journal_read_R0B both n t2 t5 t6 t7 h=some (rR,hR)){w0:Base}{m0:Map}{rd:Option Nat}{nR:Nat}{ds:DefT}:WR Try.prog w0 m0 (Func.ntmps Try.f33) rd nR (y18 (y6 (y3 (y6 (y3 (y3 (codeOf Try.f33))))))) (Post w0 m0 (Func.ntmps Try.f33) (decE rR) ⟨Fr.tree [],ds⟩ hR) [(2,t2),(5,t5),(6,.int .i64 t6),(7,strA t7)] ds h:=by
 unfold journal_Journal_read_R0B at hF;refine WR.blockK (by kernel_rfl) (fun K24 n24 s24 o24 q24 p24=>WR.seqK (by kernel_rfl) (fun K25 n25 e25 q25 p25=>WR.region (by kernel_rfl) (WLR.val (d:=(some 15)) (v:=strA t7) (h':=h) (by kernel_rfl) (by kernel_rfl) (by kernel_rfl) ?_)))
 replace hF:=callN_some hF;obtain⟨r16,h_26,e27,hF⟩:=hF
 refine WLR.call (hc.says.ok w0) (d:=(some 16)) (by kernel_rfl) (by kernel_rfl) (by kernel_rfl) e27 (WLR.val (d:=(some 14)) (v:=r16) (h':=h_26) (by kernel_rfl) (by kernel_rfl) (by kernel_rfl) ?_)
 replace hF:=obind_some hF;obtain⟨v17,e28,hF⟩:=hF
 replace hF:=obind_some hF;obtain⟨t17,c29,hF⟩:=hF
 have c29:=avAgg_some c29;subst c29;refine WLR.val (d:=(some 17)) (v:=.agg t17) (h':=h_26) (by kernel_rfl) (by kernel_rfl) (Eq.trans (by kernel_rfl) (extract_tup (h:=h_26) e28)) ?_
 replace hF:=obind_some hF;obtain⟨v18,e30,hF⟩:=hF
 replace hF:=obind_some hF;obtain⟨t18,c31,hF⟩:=hF
 have c31:=avBool_some c31;subst c31;refine WLR.val (d:=(some 18)) (v:=.bool t18) (h':=h_26) (by kernel_rfl) (by kernel_rfl) (Eq.trans (by kernel_rfl) (extract_tup (h:=h_26) e30)) ?_
 replace hF:=lett_some hF;obtain⟨h_32,e33,hF⟩:=hF
 refine WLR.val (d:=(some 8)) (v:=(newP h_26)) (h':=h_32) (by kernel_rfl) (by kernel_rfl) (val_ofH e33 (by kernel_rfl)) ?_
 replace hF:=obind_some hF;obtain⟨h_34,e35,hF⟩:=hF
 refine WLR.eff (h':=h_34) (by kernel_rfl) (by kernel_rfl) (Eq.trans (by kernel_rfl) (store_row (P:=Try.prog) (h:=h_32) (t:=56) (v:=(.agg t17)) (by kernel_rfl) (by kernel_rfl) e35)) (WLR.val (d:=(some 9)) (v:=.bool t18) (h':=h_34) (by kernel_rfl) (by kernel_rfl) (by kernel_rfl) (WLR.nil (by kernel_rfl) (Go.weaken (l':=[(2,t2),(5,t5),(6,.int .i64 t6),(7,strA t7),(8,(newP h_26)),(9,.bool t18)]) (y4 (by kernel_rfl) (y4 (by kernel_rfl) (y4 (by kernel_rfl) (y4 (by kernel_rfl) (y4 (by kernel_rfl) (y4 (by kernel_rfl) (y9 _))))))) (n25 (WR.seqK (by kernel_rfl) (fun K36 n36 e36 q36 p36=>WR.seqK (by kernel_rfl) (fun K37 n37 e37 q37 p37=>WR.region (by kernel_rfl) (WLR.val (d:=(some 19)) (v:=.bool t18) (h':=h_34) (by kernel_rfl) (by kernel_rfl) (by kernel_rfl) ?_))))))))
 replace hF:=lett_some hF;obtain⟨t20,e38,hF⟩:=hF
 refine WLR.val (d:=(some 20)) (v:=.bool t20) (h':=h_34) (by kernel_rfl) (by kernel_rfl) (val_of AV.bool e38 (by kernel_rfl)) (WLR.val (d:=(some 21)) (v:=.bool t20) (h':=h_34) (by kernel_rfl) (by kernel_rfl) (by kernel_rfl) ?_)
 replace hF:=lett_some hF;obtain⟨j26,e40,hF⟩:=hF
 have J41:∀(t26:Bool) (h_39:AHeap),j26 t26 h_39=some (rR,hR)→WLR Try.prog w0 m0 (Func.ntmps Try.f33) rd nR (Code.ops (y6 (y6 (y3 (y6 (y18 (y6 (y3 (y6 (y3 (y3 (codeOf Try.f33)))))))))))) 8 K37 [(2,t2),(5,t5),(6,.int .i64 t6),(7,strA t7),(8,(newP h_26)),(26,.bool t26)] ds h_39:=by
  intro t26 h_39 hF;rw[e40] at hF;refine WLR.nil (by kernel_rfl) (Go.weaken (l':=[(2,t2),(5,t5),(6,.int .i64 t6),(7,strA t7),(8,(newP h_26)),(26,.bool t26)]) (y4 (by kernel_rfl) (y4 (by kernel_rfl) (y4 (by kernel_rfl) (y4 (by kernel_rfl) (y4 (by kernel_rfl) (y4 (by kernel_rfl) (y9 _))))))) (n37 ?_))
  cases t26 with
  |true=>
   replace hF:=ifB_t hF
   refine WR.cond_true (by kernel_rfl) (by kernel_rfl) (WR.exit (by kernel_rfl) (e36 (o24 (by kernel_rfl) ?_)));obtain⟨hF,hF2⟩:=ret_inj hF;subst hF;subst hF2;exact Go.postE
  |false=>
   replace hF:=ifB_f hF
   refine WR.cond_false (by kernel_rfl) (by kernel_rfl) (WR.skip (by kernel_rfl) (n36 (WR.seqK (by kernel_rfl) (fun K42 n42 e42 q42 p42=>WR.region (by kernel_rfl) ?_))))
   replace hF:=obind_some hF;obtain⟨v27,e43,hF⟩:=hF
   refine WLR.val (d:=(some 27)) (v:=v27) (h':=h_39) (by kernel_rfl) (by kernel_rfl) (Eq.trans (by kernel_rfl) (load_cell (P:=Try.prog) (h:=h_39) (t:=67) (by kernel_rfl) e43)) ?_
   replace hF:=obind_some hF;obtain⟨t28,e44,hF⟩:=hF
   refine WLR.val (d:=(some 28)) (v:=.agg t28) (h':=h_39) (by kernel_rfl) (by kernel_rfl) (Eq.trans (by kernel_rfl) (load_row (P:=Try.prog) (h:=h_39) (t:=56) (by kernel_rfl) (by kernel_rfl) e44)) ?_
   replace hF:=callN_some hF;obtain⟨r29,h_45,e46,hF⟩:=hF
   refine WLR.call (hc.says.ok w0) (d:=(some 29)) (by kernel_rfl) (by kernel_rfl) (by kernel_rfl) e46 (WLR.nil (by kernel_rfl) (Go.weaken (l':=[(5,t5),(6,.int .i64 t6),(7,strA t7)]) (y4 (by kernel_rfl) (y4 (by kernel_rfl) (y4 (by kernel_rfl) (y9 _)))) (n42 (WR.region (by kernel_rfl) (WLR.val (d:=(some 30)) (v:=.int .i64 t6) (h':=h_45) (by kernel_rfl) (by kernel_rfl) (by kernel_rfl) (WLR.val (d:=(some 31)) (v:=strA t7) (h':=h_45) (by kernel_rfl) (by kernel_rfl) (by kernel_rfl) (WLR.val (d:=(some 32)) (v:=.int .i64 (lenS t7)) (h':=h_45) (by kernel_rfl) (by kernel_rfl) (by kernel_rfl) ?_)))))))
   replace hF:=lett_some hF;obtain⟨t33,e47,hF⟩:=hF
   refine WLR.val (d:=(some 33)) (v:=.int .i64 t33) (h':=h_45) (by kernel_rfl) (by kernel_rfl) (val_of (AV.int .i64) e47 (by kernel_rfl)) ?_
   replace hF:=lett_some hF;obtain⟨t34,e48,hF⟩:=hF
   refine WLR.val (d:=(some 34)) (v:=.int .i64 t34) (h':=h_45) (by kernel_rfl) (by kernel_rfl) (val_of (AV.int .i64) e48 (by kernel_rfl)) ?_
   replace hF:=obind_some hF;obtain⟨h_49,e50,hF⟩:=hF
   refine WLR.eff (h':=h_49) (by kernel_rfl) (by kernel_rfl) (Eq.trans (by kernel_rfl) (store_row (P:=Try.prog) (h:=h_45) (t:=3) (v:=(.int .i64 t34)) (by kernel_rfl) (by kernel_rfl) e50)) (WLR.nil (by kernel_rfl) (Go.weaken (l':=[]) (y9 _) (n24 ?_)));obtain⟨hF,hF2⟩:=ret_inj hF;subst hF;subst hF2;exact y3c (l':=[]) (y9 _)
 cases t20 with
 |true=>
  replace hF:=ifB_t hF
  exact WLR.not (d:=(some 22)) (by kernel_rfl) (by kernel_rfl) (WLR.not (d:=(some 23)) (by kernel_rfl) (by kernel_rfl) (WLR.not (d:=(some 24)) (by kernel_rfl) (by kernel_rfl) (WLR.not (d:=(some 25)) (by kernel_rfl) (by kernel_rfl) (WLR.val (d:=(some 26)) (v:=.bool true) (h':=h_34) (by kernel_rfl) (by kernel_rfl) (by kernel_rfl) (WLR.weaken (y4 (by kernel_rfl) (y4 (by kernel_rfl) (y4 (by kernel_rfl) (y4 (by kernel_rfl) (y4 (by kernel_rfl) (y4 (by kernel_rfl) (y9 _))))))) (J41 _ _ hF))))))
 |false=>
  replace hF:=ifB_f hF
  replace hF:=obind_some hF;obtain⟨v22,e51,hF⟩:=hF
  refine WLR.val (d:=(some 22)) (v:=v22) (h':=h_34) (by kernel_rfl) (by kernel_rfl) (Eq.trans (by kernel_rfl) (load_cell (P:=Try.prog) (h:=h_34) (t:=67) (by kernel_rfl) e51)) ?_
  replace hF:=obind_some hF;obtain⟨t23,e52,hF⟩:=hF
  refine WLR.val (d:=(some 23)) (v:=.agg t23) (h':=h_34) (by kernel_rfl) (by kernel_rfl) (Eq.trans (by kernel_rfl) (load_row (P:=Try.prog) (h:=h_34) (t:=56) (by kernel_rfl) (by kernel_rfl) e52)) ?_
  replace hF:=callN_some hF;obtain⟨r24,h_53,e54,hF⟩:=hF
  replace hF:=obind_some hF;obtain⟨t24,c55,hF⟩:=hF
  have c55:=avInt_some c55;subst c55;refine WLR.call (hc.says.ok w0) (d:=(some 24)) (by kernel_rfl) (by kernel_rfl) (by kernel_rfl) e54 ?_
  replace hF:=lett_some hF;obtain⟨t25,e56,hF⟩:=hF
  exact WLR.val (d:=(some 25)) (v:=.bool t25) (h':=h_53) (by kernel_rfl) (by kernel_rfl) (val_of AV.bool e56 (by kernel_rfl)) (WLR.val (d:=(some 26)) (v:=.bool t25) (h':=h_53) (by kernel_rfl) (by kernel_rfl) (by kernel_rfl) (WLR.weaken (y4 (by kernel_rfl) (y4 (by kernel_rfl) (y4 (by kernel_rfl) (y4 (by kernel_rfl) (y4 (by kernel_rfl) (y4 (by kernel_rfl) (y9 _))))))) (J41 _ _ hF)))
noncomputable def journal_Journal_read_R0B_fn(both:BothF)(n:Nat):FnT:=fun args h=>match args with
 |[x2,x5,x6,x7]=>obind (avInt .i64 x6) fun t6=>obind (avStr x7) fun t7=>journal_Journal_read_R0B both n x2 x5 t6 t7 h
 |_=>none
set_option maxRecDepth 100000 in
theorem journal_Journal_read_R0B_fn_eq(both:BothF)(n:Nat)(t2:AV)(t5:AV)(t6:Int)(t7:Bytes)(h:AHeap):journal_Journal_read_R0B_fn both n [t2,t5,.int .i64 t6,strA t7] h=journal_Journal_read_R0B both n t2 t5 t6 t7 h:=
 (Eq.trans (obind_eq (fun t6=>obind (avStr (strA t7)) fun t7=>journal_Journal_read_R0B both n t2 t5 t6 t7 h) (avInt_int .i64 t6)) (Eq.trans (obind_eq (fun t7=>journal_Journal_read_R0B both n t2 t5 t6 t7 h) (avStr_str t7)) rfl))
noncomputable def journal_Journal_read_R0(n:Nat):LSite:=⟨Func.ntmps Try.f33,(y6 (y3 (y6 (y3 (y3 (codeOf Try.f33)))))),[2,5,12,13],fun both=>journal_Journal_read_R0A_fn both n,[2,5,6,7],fun both=>journal_Journal_read_R0B_fn both n⟩
set_option maxRecDepth 20000 in
theorem journal_Journal_read_R0_ok(n:Nat):LSite.ok Try.prog (journal_Journal_read_R0 n) where
 A := fun hc vs h r h2 e0 w0 m0 rd n2 ds => by
   have e:journal_Journal_read_R0A_fn _ n vs h=some (r,h2):=e0;clear e0;unfold journal_Journal_read_R0A_fn at e
   split at e
   ·replace e := obind_some e; obtain ⟨t12, c12, e⟩ := e; have c12 := avInt_some c12; subst c12
    replace e:=obind_some e;obtain⟨t13,c13,e⟩:=e;have c13:=avStr_some c13;subst c13
    exact journal_Journal_read_R0A_ok hc (n:=n) e
   ·cases e
 B := fun hc vs h r h2 e0 w0 m0 rd n2 ds => by
   have e:journal_Journal_read_R0B_fn _ n vs h=some (r,h2):=e0;clear e0;unfold journal_Journal_read_R0B_fn at e
   split at e
   ·replace e := obind_some e; obtain ⟨t6, c6, e⟩ := e; have c6 := avInt_some c6; subst c6
    replace e:=obind_some e;obtain⟨t7,c7,e⟩:=e;have c7:=avStr_some c7;subst c7
    exact journal_Journal_read_R0B_ok hc (n:=n) e
   ·cases e
noncomputable def journal_Journal_read(both:BothF)(_:Nat)(t0:AV)(t1:Bytes)(h:AHeap):R:=outK (opBox h 67 (some t0)) fun v2 h_2=>lett (newH h_2 3 [.int .i64 0]) fun h_5=>obind (stRow h_5 1 [.int .i64 0] (newP h_2)) fun h_7=>callN (both false 45 [strA t1] h_7) fun r11 h_11=>lett (fun (d:DefT) (h_15:AHeap)=>obind (ldCell h_15 (newP h_2)) fun v35=>obind (avInt .i64 v35) fun t35=>marksK d h_15 fun h_19=>some (.ret (.int .i64 t35),h_19)) fun k14=>rngK (rngX Try.prog both (Func.ntmps Try.f33) r11 (y6 (y3 (y6 (y3 (y3 (codeOf Try.f33)))))) (Fr.tree [(2,v2),(4,.int .i64 0),(5,(newP h_2)),(11,r11)]) [] h_11) (fun h_20=>k14 (dmark (AHeap.next h_11)::[]) h_20) (fun _=>none) (fun id h_22=>ifB (Nat.beq id 0) (k14 (dmark (AHeap.next h_11)::[]) h_22) (none))
set_option maxHeartbeats 4000000 in
set_option maxRecDepth 20000 in
theorem journal_Journal_read_ok{both:BothF}(hc:BothAll Try.prog both){n:Nat}{t0:AV}{t1:Bytes}{h:AHeap}{rR:ARes}{hR:AHeap}(hF:journal_Journal_read both n t0 t1 h=some (rR,hR)):Says Try.prog 33 [t0,strA t1] h rR hR:=by
 unfold journal_Journal_read at hF;refine says_ofM (fn:=Try.f33) Try.func33 (c:=codeOf Try.f33) (by kernel_rfl) (by kernel_rfl) (fun w0 m0=>WR.weaken (l':=[(0,t0),(1,strA t1)]) (y4 (by kernel_rfl) (y4 (by kernel_rfl) (y9 _))) (WR.seqK (by kernel_rfl) (fun K1 n1 e1 q1 p1=>WR.region (by kernel_rfl) ?_)))
 replace hF:=outK_some hF;obtain⟨v2,h_2,e3,hF⟩:=hF
 refine WLR.val (d:=(some 2)) (v:=v2) (h':=h_2) (by kernel_rfl) (by kernel_rfl) (Eq.trans (by kernel_rfl) e3) (WLR.val (d:=(some 4)) (v:=.int .i64 0) (h':=h_2) (by kernel_rfl) (by kernel_rfl) (by kernel_rfl) (WLR.nil (by kernel_rfl) (Go.weaken (l':=[(1,strA t1),(2,v2),(4,.int .i64 0)]) (y4 (by kernel_rfl) (y4 (by kernel_rfl) (y4 (by kernel_rfl) (y9 _)))) (n1 (WR.seqK (by kernel_rfl) (fun K4 n4 e4 q4 p4=>WR.region (by kernel_rfl) ?_))))))
 replace hF:=lett_some hF;obtain⟨h_5,e6,hF⟩:=hF
 refine WLR.val (d:=(some 5)) (v:=(newP h_2)) (h':=h_5) (by kernel_rfl) (by kernel_rfl) (val_ofH e6 (by kernel_rfl)) ?_
 replace hF:=obind_some hF;obtain⟨h_7,e8,hF⟩:=hF
 refine WLR.eff (h':=h_7) (by kernel_rfl) (by kernel_rfl) (Eq.trans (by kernel_rfl) (store_row (P:=Try.prog) (h:=h_5) (t:=3) (v:=(.int .i64 0)) (by kernel_rfl) (by kernel_rfl) e8)) (WLR.nil (by kernel_rfl) (Go.weaken (l':=[(1,strA t1),(2,v2),(4,.int .i64 0),(5,(newP h_2))]) (y4 (by kernel_rfl) (y4 (by kernel_rfl) (y4 (by kernel_rfl) (y4 (by kernel_rfl) (y9 _))))) (n4 (WR.seqK (by kernel_rfl) (fun K9 n9 e9 q9 p9=>WR.seqK (by kernel_rfl) (fun K10 n10 e10 q10 p10=>WR.region (by kernel_rfl) (WLR.val (d:=(some 10)) (v:=strA t1) (h':=h_7) (by kernel_rfl) (by kernel_rfl) (by kernel_rfl) ?_)))))))
 replace hF:=callN_some hF;obtain⟨r11,h_11,e12,hF⟩:=hF
 refine WLR.call (hc.says.ok w0) (d:=(some 11)) (by kernel_rfl) (by kernel_rfl) (by kernel_rfl) e12 (WLR.nil (by kernel_rfl) (Go.weaken (l':=[(2,v2),(4,.int .i64 0),(5,(newP h_2)),(11,r11)]) (y4 (by kernel_rfl) (y4 (by kernel_rfl) (y4 (by kernel_rfl) (y4 (by kernel_rfl) (y9 _))))) (n10 ?_)))
 replace hF:=lett_some hF;obtain⟨k14,e14,hF⟩:=hF
 have J14:∀(d:DefT) (h_15:AHeap),k14 d h_15=some (rR,hR)→Go w0 m0 (Func.ntmps Try.f33) (K9 .normal) [(5,(newP h_2))] d h_15:=by
  intro d h_15 hF;rw[e14] at hF;refine n9 (WR.seqK (by kernel_rfl) (fun K16 n16 e16 q16 p16=>WR.region (by kernel_rfl) ?_))
  replace hF:=obind_some hF;obtain⟨v35,e17,hF⟩:=hF
  replace hF:=obind_some hF;obtain⟨t35,c18,hF⟩:=hF
  have c18:=avInt_some c18;subst c18;refine WLR.val (d:=(some 35)) (v:=.int .i64 t35) (h':=h_15) (by kernel_rfl) (by kernel_rfl) (Eq.trans (by kernel_rfl) (load_cell (P:=Try.prog) (h:=h_15) (t:=3) (by kernel_rfl) e17)) (WLR.val (d:=(some 4)) (v:=.int .i64 t35) (h':=h_15) (by kernel_rfl) (by kernel_rfl) (by kernel_rfl) (WLR.nil (by kernel_rfl) (Go.weaken (l':=[(4,.int .i64 t35)]) (y4 (by kernel_rfl) (y9 _)) (n16 (WR.ret (by kernel_rfl) (y28 hF (fun h_19 hF=>?_)))))));obtain⟨hF,hF2⟩:=ret_inj hF;subst hF;subst hF2;exact ret_of (rs:=[.tmp 4]) (vs:=[.int .i64 t35]) (by kernel_rfl) (res_tmp (by kernel_rfl) res_nil) (by kernel_rfl)
 refine WR.blockK (by kernel_rfl) (fun K13 n13 s13 o13 q13 p13=>WR.rng hc hF (fun h_20 hF=>?_) (fun h_21 hF=>?_) (fun id h_22 hF=>?_))
 ·skip
  exact n13 (Go.weaken (y4 (by kernel_rfl) (y9 _)) (J14 _ _ hF))
 ·skip
  cases hF
 ·skip
  obtain⟨rfl,hF⟩:=ifB_id hF;exact s13 (by kernel_rfl) (Go.weaken (y4 (by kernel_rfl) (y9 _)) (J14 _ _ hF))
noncomputable def journal_Journal_read_fn(both:BothF)(n:Nat):FnT:=fun args h=>match args with
 |[x0,x1]=>obind (avStr x1) fun t1=>journal_Journal_read both n x0 t1 h
 |_=>none
set_option maxRecDepth 100000 in
theorem journal_Journal_read_fn_eq(both:BothF)(n:Nat)(t0:AV)(t1:Bytes)(h:AHeap):journal_Journal_read_fn both n [t0,strA t1] h=journal_Journal_read both n t0 t1 h:=
 (Eq.trans (obind_eq (fun t1=>journal_Journal_read both n t0 t1 h) (avStr_str t1)) rfl)
theorem journal_Journal_read_holds{both:BothF}(hc:BothAll Try.prog both)(n:Nat):Holds Try.prog 33 (journal_Journal_read_fn both n):=by
 intro args h r h2 e;unfold journal_Journal_read_fn at e
 split at e
 ·replace e := obind_some e; obtain ⟨t1, c1, e⟩ := e; have c1 := avStr_some c1; subst c1
  exact journal_Journal_read_ok hc (n:=n) e
 ·cases e
noncomputable def law23_list_R0A(_:BothF)(_:Nat)(t5:AV)(t12:List AV)(h:AHeap):R:=lett (newH h 56 [.int .i64 0,.int .i64 0,.int .i64 0,.int .i64 0,.str 0 0]) fun h_24=>obind (stRow h_24 5 t12 (newP h)) fun h_26=>some (.ret (.tup [t5,(newP h)]),h_26)
set_option maxHeartbeats 4000000 in
set_option maxRecDepth 20000 in
theorem law23_list_R0A_ok{both:BothF}(_:BothAll Try.prog both){n:Nat}{t5:AV}{t12:List AV}{h:AHeap}{rR:ARes}{hR:AHeap}(hF:law23_list_R0A both n t5 t12 h=some (rR,hR)){w0:Base}{m0:Map}{rd:Option Nat}{nR:Nat}{ds:DefT}:WR Try.prog w0 m0 (Func.ntmps Try.f15) rd nR (y1d (y6 (y3 (y6 (y3 (y3 (y3 (y3 (codeOf Try.f15))))))))) (Post w0 m0 (Func.ntmps Try.f15) .normal ⟨Fr.tree (tupFr [5,6] rR),ds⟩ hR) [(5,t5),(12,.agg t12)] ds h:=by
 unfold law23_list_R0A at hF;refine WR.region (by kernel_rfl) ?_
 replace hF:=lett_some hF;obtain⟨h_24,e25,hF⟩:=hF
 refine WLR.val (d:=(some 6)) (v:=(newP h)) (h':=h_24) (by kernel_rfl) (by kernel_rfl) (val_ofH e25 (by kernel_rfl)) ?_
 replace hF:=obind_some hF;obtain⟨h_26,e27,hF⟩:=hF
 refine WLR.eff (h':=h_26) (by kernel_rfl) (by kernel_rfl) (Eq.trans (by kernel_rfl) (store_row (P:=Try.prog) (h:=h_24) (t:=56) (v:=(.agg t12)) (by kernel_rfl) (by kernel_rfl) e27)) (WLR.nil (by kernel_rfl) (Go.weaken (l':=[(5,t5),(6,(newP h))]) (y4 (by kernel_rfl) (y4 (by kernel_rfl) (y9 _))) ?_));obtain⟨hF,hF2⟩:=ret_inj hF;subst hF;subst hF2;exact y3c (l':=[(5,t5),(6,(newP h))]) (y4 (by kernel_rfl) (y4 (by kernel_rfl) (y9 _)))
noncomputable def law23_list_R0A_fn(both:BothF)(n:Nat):FnT:=fun args h=>match args with
 |[x5,x12]=>obind (avAgg x12) fun t12=>law23_list_R0A both n x5 t12 h
 |_=>none
set_option maxRecDepth 100000 in
theorem law23_list_R0A_fn_eq(both:BothF)(n:Nat)(t5:AV)(t12:List AV)(h:AHeap):law23_list_R0A_fn both n [t5,.agg t12] h=law23_list_R0A both n t5 t12 h:=
 (Eq.trans (obind_eq (fun t12=>law23_list_R0A both n t5 t12 h) (avAgg_agg t12)) rfl)
noncomputable def law23_list_R0B(_:BothF)(_:Nat)(t5:AV)(t6:AV)(h:AHeap):R:=obind (ldCell h t5) fun v13=>obind (ldRow h 5 t6) fun t14=>outK (bldSl Try.prog h 45 1 [(0,.agg t14)]) fun v15 h_31=>outK (opAppend Try.prog h_31 45 45 v13 v15) fun v16 h_33=>obind (stRow h_33 1 (AV.cells v16) t5) fun h_35=>some (.ret (.int .i64 0),h_35)
set_option maxHeartbeats 4000000 in
set_option maxRecDepth 20000 in
theorem law23_list_R0B_ok{both:BothF}(_:BothAll Try.prog both){n:Nat}{t5:AV}{t6:AV}{h:AHeap}{rR:ARes}{hR:AHeap}(hF:law23_list_R0B both n t5 t6 h=some (rR,hR)){w0:Base}{m0:Map}{rd:Option Nat}{nR:Nat}{ds:DefT}:WR Try.prog w0 m0 (Func.ntmps Try.f15) rd nR (y18 (y6 (y3 (y6 (y3 (y3 (y3 (y3 (codeOf Try.f15))))))))) (Post w0 m0 (Func.ntmps Try.f15) (decE rR) ⟨Fr.tree [],ds⟩ hR) [(5,t5),(6,t6)] ds h:=by
 unfold law23_list_R0B at hF;refine WR.blockK (by kernel_rfl) (fun K28 n28 s28 o28 q28 p28=>WR.region (by kernel_rfl) ?_)
 replace hF:=obind_some hF;obtain⟨v13,e29,hF⟩:=hF
 refine WLR.val (d:=(some 13)) (v:=v13) (h':=h) (by kernel_rfl) (by kernel_rfl) (Eq.trans (by kernel_rfl) (load_cell (P:=Try.prog) (h:=h) (t:=45) (by kernel_rfl) e29)) ?_
 replace hF:=obind_some hF;obtain⟨t14,e30,hF⟩:=hF
 refine WLR.val (d:=(some 14)) (v:=.agg t14) (h':=h) (by kernel_rfl) (by kernel_rfl) (Eq.trans (by kernel_rfl) (load_row (P:=Try.prog) (h:=h) (t:=56) (by kernel_rfl) (by kernel_rfl) e30)) ?_
 replace hF:=outK_some hF;obtain⟨v15,h_31,e32,hF⟩:=hF
 refine WLR.val (d:=(some 15)) (v:=v15) (h':=h_31) (by kernel_rfl) (by kernel_rfl) (Eq.trans (by kernel_rfl) e32) ?_
 replace hF:=outK_some hF;obtain⟨v16,h_33,e34,hF⟩:=hF
 refine WLR.val (d:=(some 16)) (v:=v16) (h':=h_33) (by kernel_rfl) (by kernel_rfl) (Eq.trans (by kernel_rfl) e34) ?_
 replace hF:=obind_some hF;obtain⟨h_35,e36,hF⟩:=hF
 refine WLR.eff (h':=h_35) (by kernel_rfl) (by kernel_rfl) (Eq.trans (by kernel_rfl) (store_row (P:=Try.prog) (h:=h_33) (t:=45) (v:=v16) (by kernel_rfl) (by kernel_rfl) e36)) (WLR.nil (by kernel_rfl) (Go.weaken (l':=[]) (y9 _) (n28 ?_)));obtain⟨hF,hF2⟩:=ret_inj hF;subst hF;subst hF2;exact y3c (l':=[]) (y9 _)
noncomputable def law23_list_R0B_fn(both:BothF)(n:Nat):FnT:=fun args h=>match args with
 |[x5,x6]=>law23_list_R0B both n x5 x6 h
 |_=>none
set_option maxRecDepth 100000 in
theorem law23_list_R0B_fn_eq(both:BothF)(n:Nat)(t5:AV)(t6:AV)(h:AHeap):law23_list_R0B_fn both n [t5,t6] h=law23_list_R0B both n t5 t6 h:=
 rfl
noncomputable def law23_list_R0(n:Nat):LSite:=⟨Func.ntmps Try.f15,(y6 (y3 (y6 (y3 (y3 (y3 (y3 (codeOf Try.f15)))))))),[5,12],fun both=>law23_list_R0A_fn both n,[5,6],fun both=>law23_list_R0B_fn both n⟩
set_option maxRecDepth 20000 in
theorem law23_list_R0_ok(n:Nat):LSite.ok Try.prog (law23_list_R0 n) where
 A := fun hc vs h r h2 e0 w0 m0 rd n2 ds => by
   have e:law23_list_R0A_fn _ n vs h=some (r,h2):=e0;clear e0;unfold law23_list_R0A_fn at e
   split at e
   ·replace e := obind_some e; obtain ⟨t12, c12, e⟩ := e; have c12 := avAgg_some c12; subst c12
    exact law23_list_R0A_ok hc (n:=n) e
   ·cases e
 B := fun hc vs h r h2 e0 w0 m0 rd n2 ds => by
   have e:law23_list_R0B_fn _ n vs h=some (r,h2):=e0;clear e0;unfold law23_list_R0B_fn at e
   split at e
   ·exact law23_list_R0B_ok hc (n:=n) e
   ·cases e
noncomputable def law23_list(both:BothF)(_:Nat)(t0:AV)(h:AHeap):R:=callN (both false 31 [t0] h) fun r8 h_3=>outK (opBin Try.prog h_3 .eql 85 true (some r8) (some AV.nfn)) fun v10 h_7=>obind (avBool v10) fun t10=>ifB t10 (marksK [] h_7 fun h_11=>some (.ret (.tup [AV.nsl,.bool false]),h_11)) (lett (newH h_7 45 [.nsl]) fun h_13=>rngK (rngX Try.prog both (Func.ntmps Try.f15) r8 (y6 (y3 (y6 (y3 (y3 (y3 (y3 (codeOf Try.f15)))))))) (Fr.tree [(2,AV.nsl),(3,.bool false),(5,(newP h_7)),(11,r8)]) [] h_13) (fun h_18=>obind (ldCell h_18 (newP h_7)) fun v17=>marksK (dmark (AHeap.next h_13)::[]) h_18 fun h_23=>some (.ret (.tup [v17,.bool true]),h_23)) (fun _=>none) (fun _ _=>none))
set_option maxHeartbeats 4000000 in
set_option maxRecDepth 20000 in
theorem law23_list_ok{both:BothF}(hc:BothAll Try.prog both){n:Nat}{t0:AV}{h:AHeap}{rR:ARes}{hR:AHeap}(hF:law23_list both n t0 h=some (rR,hR)):Says Try.prog 15 [t0] h rR hR:=by
 unfold law23_list at hF;refine says_ofM (fn:=Try.f15) Try.func15 (c:=codeOf Try.f15) (by kernel_rfl) (by kernel_rfl) (fun w0 m0=>WR.weaken (l':=[(0,t0)]) (y4 (by kernel_rfl) (y9 _)) (WR.seqK (by kernel_rfl) (fun K1 n1 e1 q1 p1=>WR.region (by kernel_rfl) (WLR.val (d:=(some 2)) (v:=AV.nsl) (h':=h) (by kernel_rfl) (by kernel_rfl) (by kernel_rfl) (WLR.val (d:=(some 3)) (v:=.bool false) (h':=h) (by kernel_rfl) (by kernel_rfl) (by kernel_rfl) (WLR.nil (by kernel_rfl) (Go.weaken (l':=[(0,t0),(2,AV.nsl),(3,.bool false)]) (y4 (by kernel_rfl) (y4 (by kernel_rfl) (y4 (by kernel_rfl) (y9 _)))) (n1 (WR.seqK (by kernel_rfl) (fun K2 n2 e2 q2 p2=>WR.region (by kernel_rfl) (WLR.val (d:=(some 7)) (v:=t0) (h':=h) (by kernel_rfl) (by kernel_rfl) (by kernel_rfl) ?_)))))))))))
 replace hF:=callN_some hF;obtain⟨r8,h_3,e4,hF⟩:=hF
 refine WLR.call (hc.says.ok w0) (d:=(some 8)) (by kernel_rfl) (by kernel_rfl) (by kernel_rfl) e4 (WLR.val (d:=(some 4)) (v:=r8) (h':=h_3) (by kernel_rfl) (by kernel_rfl) (by kernel_rfl) (WLR.nil (by kernel_rfl) (Go.weaken (l':=[(2,AV.nsl),(3,.bool false),(4,r8)]) (y4 (by kernel_rfl) (y4 (by kernel_rfl) (y4 (by kernel_rfl) (y9 _)))) (n2 (WR.seqK (by kernel_rfl) (fun K5 n5 e5 q5 p5=>WR.seqK (by kernel_rfl) (fun K6 n6 e6 q6 p6=>WR.region (by kernel_rfl) (WLR.val (d:=(some 9)) (v:=r8) (h':=h_3) (by kernel_rfl) (by kernel_rfl) (by kernel_rfl) ?_))))))))
 replace hF:=outK_some hF;obtain⟨v10,h_7,e8,hF⟩:=hF
 replace hF:=obind_some hF;obtain⟨t10,c9,hF⟩:=hF
 have c9:=avBool_some c9;subst c9;refine WLR.val (d:=(some 10)) (v:=.bool t10) (h':=h_7) (by kernel_rfl) (by kernel_rfl) (Eq.trans (by kernel_rfl) e8) (WLR.nil (by kernel_rfl) (Go.weaken (l':=[(2,AV.nsl),(3,.bool false),(4,r8),(10,.bool t10)]) (y4 (by kernel_rfl) (y4 (by kernel_rfl) (y4 (by kernel_rfl) (y4 (by kernel_rfl) (y9 _))))) (n6 ?_)))
 cases t10 with
 |true=>
  replace hF:=ifB_t hF
  refine WR.cond_true (by kernel_rfl) (by kernel_rfl) (WR.seqK (by kernel_rfl) (fun K10 n10 e10 q10 p10=>WR.region (by kernel_rfl) (WLR.val (d:=(some 2)) (v:=AV.nsl) (h':=h_7) (by kernel_rfl) (by kernel_rfl) (by kernel_rfl) (WLR.val (d:=(some 3)) (v:=.bool false) (h':=h_7) (by kernel_rfl) (by kernel_rfl) (by kernel_rfl) (WLR.nil (by kernel_rfl) (Go.weaken (l':=[(2,AV.nsl),(3,.bool false)]) (y4 (by kernel_rfl) (y4 (by kernel_rfl) (y9 _))) (n10 (WR.ret (by kernel_rfl) (q5 (y28 hF (fun h_11 hF=>?_)))))))))));obtain⟨hF,hF2⟩:=ret_inj hF;subst hF;subst hF2;exact ret_of (rs:=[.tmp 2,.tmp 3]) (vs:=[AV.nsl,.bool false]) (by kernel_rfl) (res_tmp (by kernel_rfl) (res_tmp (by kernel_rfl) res_nil)) (by kernel_rfl)
 |false=>
  replace hF:=ifB_f hF
  refine WR.cond_false (by kernel_rfl) (by kernel_rfl) (WR.skip (by kernel_rfl) (n5 (WR.seqK (by kernel_rfl) (fun K12 n12 e12 q12 p12=>WR.region (by kernel_rfl) ?_))))
  replace hF:=lett_some hF;obtain⟨h_13,e14,hF⟩:=hF
  refine WLR.val (d:=(some 5)) (v:=(newP h_7)) (h':=h_13) (by kernel_rfl) (by kernel_rfl) (val_ofH e14 (by kernel_rfl)) (WLR.nil (by kernel_rfl) (Go.weaken (l':=[(2,AV.nsl),(3,.bool false),(4,r8),(5,(newP h_7))]) (y4 (by kernel_rfl) (y4 (by kernel_rfl) (y4 (by kernel_rfl) (y4 (by kernel_rfl) (y9 _))))) (n12 (WR.seqK (by kernel_rfl) (fun K15 n15 e15 q15 p15=>WR.seqK (by kernel_rfl) (fun K16 n16 e16 q16 p16=>WR.region (by kernel_rfl) (WLR.val (d:=(some 11)) (v:=r8) (h':=h_13) (by kernel_rfl) (by kernel_rfl) (by kernel_rfl) (WLR.nil (by kernel_rfl) (Go.weaken (l':=[(2,AV.nsl),(3,.bool false),(5,(newP h_7)),(11,r8)]) (y4 (by kernel_rfl) (y4 (by kernel_rfl) (y4 (by kernel_rfl) (y4 (by kernel_rfl) (y9 _))))) (n16 (WR.blockK (by kernel_rfl) (fun K17 n17 s17 o17 q17 p17=>WR.rng hc hF (fun h_18 hF=>?_) (fun h_19 hF=>?_) (fun id h_20 hF=>?_)))))))))))))
  ·skip
   refine n17 (n15 (WR.seqK (by kernel_rfl) (fun K21 n21 e21 q21 p21=>WR.region (by kernel_rfl) ?_)))
   replace hF:=obind_some hF;obtain⟨v17,e22,hF⟩:=hF
   refine WLR.val (d:=(some 17)) (v:=v17) (h':=h_18) (by kernel_rfl) (by kernel_rfl) (Eq.trans (by kernel_rfl) (load_cell (P:=Try.prog) (h:=h_18) (t:=45) (by kernel_rfl) e22)) (WLR.val (d:=(some 2)) (v:=v17) (h':=h_18) (by kernel_rfl) (by kernel_rfl) (by kernel_rfl) (WLR.val (d:=(some 3)) (v:=.bool true) (h':=h_18) (by kernel_rfl) (by kernel_rfl) (by kernel_rfl) (WLR.nil (by kernel_rfl) (Go.weaken (l':=[(2,v17),(3,.bool true)]) (y4 (by kernel_rfl) (y4 (by kernel_rfl) (y9 _))) (n21 (WR.ret (by kernel_rfl) (y28 hF (fun h_23 hF=>?_))))))));obtain⟨hF,hF2⟩:=ret_inj hF;subst hF;subst hF2;exact ret_of (rs:=[.tmp 2,.tmp 3]) (vs:=[v17,.bool true]) (by kernel_rfl) (res_tmp (by kernel_rfl) (res_tmp (by kernel_rfl) res_nil)) (by kernel_rfl)
  ·skip
   cases hF
  ·skip
   cases hF
noncomputable def law23_list_fn(both:BothF)(n:Nat):FnT:=fun args h=>match args with
 |[x0]=>law23_list both n x0 h
 |_=>none
set_option maxRecDepth 100000 in
theorem law23_list_fn_eq(both:BothF)(n:Nat)(t0:AV)(h:AHeap):law23_list_fn both n [t0] h=law23_list both n t0 h:=
 rfl
theorem law23_list_holds{both:BothF}(hc:BothAll Try.prog both)(n:Nat):Holds Try.prog 15 (law23_list_fn both n):=by
 intro args h r h2 e;unfold law23_list_fn at e
 split at e
 ·exact law23_list_ok hc (n:=n) e
 ·cases e
noncomputable def journal_Open(call:CallF)(_:Nat)(t0:AV)(h:AHeap):R:=callN (call 32 [t0,.int .i64 0] h) fun r12 h_3=>obind (extT 0 r12) fun v13=>obind (avStr v13) fun t13=>obind (extT 1 r12) fun v14=>obind (avInt .i64 v14) fun t14=>lett ((t14:Int) != 0) fun (t16:Bool)=>lett (fun (t20:Bool) (h_12:AHeap)=>ifB t20 (some (.ret (.tup [AV.nilp,.int .i64 t14]),h_12)) (lett (AHeap.new h_12 (.map [])) fun h_17=>obind (bldS Try.prog 91 [(0,t0),(2,(AV.mp (AHeap.next h_12)))]) fun t24=>outK (opBox h_17 91 (some (.agg t24))) fun v25 h_20=>callN (call 33 [v25,strA t13] h_20) fun r28 h_23=>obind (avInt .i64 r28) fun t28=>lett ((t28:Int) == (lenS t13)) fun (t32:Bool)=>ifB t32 (some (.ret (.tup [v25,.int .i64 0]),h_23)) (callN (call 34 [t0,.int .i64 0,.int .i64 t28] h_23) fun r36 h_32=>obind (avInt .i64 r36) fun t36=>lett ((t36:Int) != 0) fun (t38:Bool)=>ifB t38 (some (.ret (.tup [AV.nilp,.int .i64 t36]),h_32)) (callN (call 22 [t0,.int .i64 0] h_32) fun r41 h_40=>obind (avInt .i64 r41) fun t41=>lett ((t41:Int) != 0) fun (t43:Bool)=>ifB t43 (some (.ret (.tup [AV.nilp,.int .i64 t41]),h_40)) (some (.ret (.tup [v25,.int .i64 0]),h_40)))))) fun j20=>ifB t16 (lett ((t14:Int) != 4) fun (t19:Bool)=>j20 t19 h_3) (j20 false h_3)
set_option maxHeartbeats 4000000 in
set_option maxRecDepth 20000 in
theorem journal_Open_ok{call:CallF}(hc:SaysAll Try.prog call){n:Nat}{t0:AV}{h:AHeap}{rR:ARes}{hR:AHeap}(hF:journal_Open call n t0 h=some (rR,hR)):Says Try.prog 20 [t0] h rR hR:=by
 unfold journal_Open at hF;refine sO Try.func20 fun w0 m0=>wW [(0,t0)] (oG fun n1=>W.r (oA 2 AV.nilp (oA 3 (.int .i64 0) (oV [(0,t0)] (n1 (oG fun n2=>W.r (oA 11 t0 (oC hc (some 12) hF fun r12 h_3 hF=>oA 10 r12 (oEs 13 hF fun t13 hF=>oEi 14 hF fun t14 hF=>oA 4 (strA t13) (oA 5 (.int .i64 t14) (oV [(0,t0),(4,strA t13),(5,.int .i64 t14)] (n2 (oH fun n9 q9=>W.s (fun K10 n10 e10 q10 p10=>W.r (oA 15 (.int .i64 t14) (oB 16 hF fun t16 hF=>oA 17 (.bool t16) ?_))))))))))))))));obtain⟨j20,e13,hF⟩:=lett_some hF
 have J14:∀(t20:Bool) (h_12:AHeap),j20 t20 h_12=some (rR,hR)→WL Try.prog w0 m0 (Func.ntmps Try.f20) (Code.ops (y6 (y6 (y3 (y3 (codeOf Try.f20)))))) 6 K10 [(0,t0),(4,strA t13),(5,.int .i64 t14),(20,.bool t20)] [] h_12:=by
  intro t20 h_12 hF;rw[e13] at hF;refine oV [(0,t0),(4,strA t13),(5,.int .i64 t14),(20,.bool t20)] (n10 ?_)
  cases t20 with
  |true=>
   exact oT hF fun hF=>oG fun n15=>W.r (oA 21 (.int .i64 t14) (oA 2 AV.nilp (oA 3 (.int .i64 t14) (oV [(2,AV.nilp),(3,.int .i64 t14)] (n15 (oY (q9 (lZ hF [.tmp 2,.tmp 3] [AV.nilp,.int .i64 t14] (rT (rT res_nil))))))))))
  |false=>
   refine oU hF fun hF=>oZ (n9 (oG fun n16=>W.r (oA 22 t0 ?_)));obtain⟨h_17,e18,hF⟩:=lett_some hF;refine WL.val (d:=(some 23)) (v:=(AV.mp (AHeap.next h_12))) (h':=h_17) (by kernel_rfl) (by kernel_rfl) (val_ofH e18 (by kernel_rfl)) ?_;obtain⟨t24,e19,hF⟩:=obind_some hF;refine WL.val (d:=(some 24)) (v:=.agg t24) (h':=h_17) (by kernel_rfl) (by kernel_rfl) (bld_ok (by kernel_rfl) e19) (oK 25 hF fun v25 h_20 hF=>oA 6 v25 (oV [(0,t0),(4,strA t13),(6,v25)] (n16 (oG fun n22=>W.r (oA 26 v25 (oA 27 (strA t13) (oCi hc 28 hF fun t28 h_23 hF=>oA 7 (.int .i64 t28) (oV [(0,t0),(4,strA t13),(6,v25),(7,.int .i64 t28)] (n22 (oH fun n26 q26=>oG fun n27=>W.r (oA 29 (.int .i64 t28) (oA 30 (strA t13) (oA 31 (.int .i64 (lenS t13)) (oB 32 hF fun t32 hF=>oV [(0,t0),(6,v25),(7,.int .i64 t28),(32,.bool t32)] (n27 ?_)))))))))))))))
   cases t32 with
   |true=>
    exact oT hF fun hF=>oG fun n29=>W.r (oA 33 v25 (oA 2 v25 (oA 3 (.int .i64 0) (oV [(2,v25),(3,.int .i64 0)] (n29 (oY (q26 (lZ hF [.tmp 2,.tmp 3] [v25,.int .i64 0] (rT (rT res_nil))))))))))
   |false=>
    refine oU hF fun hF=>oZ (n26 (oH fun n30 q30=>oG fun n31=>W.r (oA 34 t0 (oA 35 (.int .i64 t28) (oCi hc 36 hF fun t36 h_32 hF=>oA 8 (.int .i64 t36) (oV [(0,t0),(6,v25),(8,.int .i64 t36)] (n31 (oG fun n35=>W.r (oA 37 (.int .i64 t36) (oB 38 hF fun t38 hF=>oV [(0,t0),(6,v25),(8,.int .i64 t36),(38,.bool t38)] (n35 ?_)))))))))))
    cases t38 with
    |true=>
     exact oT hF fun hF=>oG fun n37=>W.r (oA 39 (.int .i64 t36) (oA 2 AV.nilp (oA 3 (.int .i64 t36) (oV [(2,AV.nilp),(3,.int .i64 t36)] (n37 (oY (q30 (lZ hF [.tmp 2,.tmp 3] [AV.nilp,.int .i64 t36] (rT (rT res_nil))))))))))
    |false=>
     refine oU hF fun hF=>oZ (n30 (oH fun n38 q38=>oG fun n39=>W.r (oA 40 t0 (oCi hc 41 hF fun t41 h_40 hF=>oA 9 (.int .i64 t41) (oV [(6,v25),(9,.int .i64 t41)] (n39 (oG fun n43=>W.r (oA 42 (.int .i64 t41) (oB 43 hF fun t43 hF=>oV [(6,v25),(9,.int .i64 t41),(43,.bool t43)] (n43 ?_))))))))))
     cases t43 with
     |true=>
      exact oT hF fun hF=>oG fun n45=>W.r (oA 44 (.int .i64 t41) (oA 2 AV.nilp (oA 3 (.int .i64 t41) (oV [(2,AV.nilp),(3,.int .i64 t41)] (n45 (oY (q38 (lZ hF [.tmp 2,.tmp 3] [AV.nilp,.int .i64 t41] (rT (rT res_nil))))))))))
     |false=>
      exact oU hF fun hF=>oZ (n38 (oG fun n46=>W.r (oA 45 v25 (oA 2 v25 (oA 3 (.int .i64 0) (oV [(2,v25),(3,.int .i64 0)] (n46 (oY (lZ hF [.tmp 2,.tmp 3] [v25,.int .i64 0] (rT (rT res_nil)))))))))))
 cases t16 with
 |true=>
  replace hF:=ifB_t hF
  exact oA 18 (.int .i64 t14) (oB 19 hF fun t19 hF=>oA 20 (.bool t19) (lW _ (J14 _ _ hF)))
 |false=>
  replace hF:=ifB_f hF
  exact WL.o (some 18) (WL.o (some 19) (oA 20 (.bool false) (lW _ (J14 _ _ hF))))
noncomputable def gateway_Open(call:CallF)(_:Nat)(t0:AV)(h:AHeap):R:=callN (call 20 [t0] h) fun r9 h_3=>obind (extT 0 r9) fun v10=>obind (extT 1 r9) fun v11=>obind (avInt .i64 v11) fun t11=>lett ((t11:Int) != 0) fun (t13:Bool)=>ifB t13 (some (.ret (.tup [AV.nilp,.int .i64 t11]),h_3)) (callN (call 21 [t0,.int .i64 0] h_3) fun r16 h_14=>obind (avInt .i64 r16) fun t16=>lett (decide (t16>0)) fun (t17:Bool)=>lett (fun (h_19:AHeap)=>lett (AHeap.new h_19 (.map [])) fun h_21=>obind (bldS Try.prog 73 [(0,v10),(1,(AV.mp (AHeap.next h_19)))]) fun t25=>outK (opBox h_21 73 (some (.agg t25))) fun v26 h_24=>some (.ret (.tup [v26,.int .i64 0]),h_24)) fun k18=>ifB t17 (callN (call 22 [t0,.int .i64 0] h_14) fun r19 h_27=>obind (avInt .i64 r19) fun t19=>lett ((t19:Int) != 0) fun (t21:Bool)=>ifB t21 (some (.ret (.tup [AV.nilp,.int .i64 t19]),h_27)) (k18 h_27)) (k18 h_14))
set_option maxHeartbeats 4000000 in
set_option maxRecDepth 20000 in
theorem gateway_Open_ok{call:CallF}(hc:SaysAll Try.prog call){n:Nat}{t0:AV}{h:AHeap}{rR:ARes}{hR:AHeap}(hF:gateway_Open call n t0 h=some (rR,hR)):Says Try.prog 7 [t0] h rR hR:=by
 unfold gateway_Open at hF;refine sO Try.func7 fun w0 m0=>wW [(0,t0)] (oG fun n1=>W.r (oA 2 AV.nilp (oA 3 (.int .i64 0) (oV [(0,t0)] (n1 (oG fun n2=>W.r (oA 8 t0 (oC hc (some 9) hF fun r9 h_3 hF=>oA 7 r9 (oE 10 hF fun v10 hF=>oEi 11 hF fun t11 hF=>oA 4 v10 (oA 5 (.int .i64 t11) (oV [(0,t0),(4,v10),(5,.int .i64 t11)] (n2 (oH fun n8 q8=>oG fun n9=>W.r (oA 12 (.int .i64 t11) (oB 13 hF fun t13 hF=>oV [(0,t0),(4,v10),(5,.int .i64 t11),(13,.bool t13)] (n9 ?_))))))))))))))))
 cases t13 with
 |true=>
  exact oT hF fun hF=>oG fun n11=>W.r (oA 14 (.int .i64 t11) (oA 2 AV.nilp (oA 3 (.int .i64 t11) (oV [(2,AV.nilp),(3,.int .i64 t11)] (n11 (oY (q8 (lZ hF [.tmp 2,.tmp 3] [AV.nilp,.int .i64 t11] (rT (rT res_nil))))))))))
 |false=>
  refine oU hF fun hF=>oZ (n8 (W.s (fun K12 n12 e12 q12 p12=>oG fun n13=>W.r (oA 15 t0 (oCi hc 16 hF fun t16 h_14 hF=>oB 17 hF fun t17 hF=>oV [(0,t0),(4,v10),(17,.bool t17)] (n13 ?_))))));obtain⟨k18,e18,hF⟩:=lett_some hF
  have J18:∀(h_19:AHeap),k18 h_19=some (rR,hR)→Go w0 m0 (Func.ntmps Try.f7) (K12 .normal) [(4,v10)] [] h_19:=by
   intro h_19 hF;rw[e18] at hF;refine n12 (oG fun n20=>W.r (oA 23 v10 ?_));obtain⟨h_21,e22,hF⟩:=lett_some hF;refine WL.val (d:=(some 24)) (v:=(AV.mp (AHeap.next h_19))) (h':=h_21) (by kernel_rfl) (by kernel_rfl) (val_ofH e22 (by kernel_rfl)) ?_;obtain⟨t25,e23,hF⟩:=obind_some hF;exact WL.val (d:=(some 25)) (v:=.agg t25) (h':=h_21) (by kernel_rfl) (by kernel_rfl) (bld_ok (by kernel_rfl) e23) (oK 26 hF fun v26 h_24 hF=>oA 2 v26 (oA 3 (.int .i64 0) (oV [(2,v26),(3,.int .i64 0)] (n20 (oY (lZ hF [.tmp 2,.tmp 3] [v26,.int .i64 0] (rT (rT res_nil))))))))
  cases t17 with
  |true=>
   refine oT hF fun hF=>oG fun n26=>W.r (oA 18 t0 (oCi hc 19 hF fun t19 h_27 hF=>oA 6 (.int .i64 t19) (oV [(4,v10),(6,.int .i64 t19)] (n26 (oG fun n30=>W.r (oA 20 (.int .i64 t19) (oB 21 hF fun t21 hF=>oV [(4,v10),(6,.int .i64 t19),(21,.bool t21)] (n30 ?_))))))))
   cases t21 with
   |true=>
    exact oT hF fun hF=>oG fun n32=>W.r (oA 22 (.int .i64 t19) (oA 2 AV.nilp (oA 3 (.int .i64 t19) (oV [(2,AV.nilp),(3,.int .i64 t19)] (n32 (oY (q12 (lZ hF [.tmp 2,.tmp 3] [AV.nilp,.int .i64 t19] (rT (rT res_nil))))))))))
   |false=>
    exact oU hF fun hF=>oZ (gW _ (J18 _ hF))
  |false=>
   exact oU hF fun hF=>oZ (gW _ (J18 _ hF))
noncomputable def law23_works(call:CallF)(_:Nat)(h:AHeap):R:=callN (call 6 [] h) fun r9 h_3=>callN (call 7 [r9] h_3) fun r12 h_6=>obind (extT 0 r12) fun v13=>obind (extT 1 r12) fun v14=>obind (avInt .i64 v14) fun t14=>lett ((t14:Int) != 0) fun (t16:Bool)=>lett (fun (t20:Bool) (h_14:AHeap)=>ifB t20 (some (.ret (.bool false),h_14)) (callN (call 9 [.int .u8 9,.int .i64 2,.int .i64 1,.int .i64 1,strA ([97]:Bytes)] h_14) fun r23 h_19=>obind (avAgg r23) fun t23=>callN (call 8 [v13,.agg t23,AV.nilp] h_19) fun r24 h_22=>obind (extT 0 r24) fun v25=>obind (avAgg v25) fun t25=>obind (extT 1 r24) fun v26=>obind (avInt .i64 v26) fun t26=>lett (newH h_22 33 [.int .u8 0,.int .i64 0,.int .i64 0,.int .i64 0,.int .i64 0,.int .i64 0,.int .i64 0,.int .i64 0,.bool false,.nsl,.int .i64 0,.int .i64 0,.str 0 0,.int .i64 0,.int .i64 0,.int .i64 0,.int .i64 0,.int .i64 0,.int .i64 0,.int .u8 0,.int .i64 0,.int .i64 0]) fun h_28=>obind (stRow h_28 22 t25 (newP h_22)) fun h_30=>callN (call 9 [.int .u8 9,.int .i64 1,.int .i64 9,.int .i64 2,strA ([98]:Bytes)] h_30) fun r29 h_33=>obind (avAgg r29) fun t29=>callN (call 8 [v13,.agg t29,AV.nilp] h_33) fun r30 h_36=>obind (extT 0 r30) fun v31=>obind (avAgg v31) fun t31=>obind (extT 1 r30) fun v32=>obind (avInt .i64 v32) fun t32=>lett (newH h_36 33 [.int .u8 0,.int .i64 0,.int .i64 0,.int .i64 0,.int .i64 0,.int .i64 0,.int .i64 0,.int .i64 0,.bool false,.nsl,.int .i64 0,.int .i64 0,.str 0 0,.int .i64 0,.int .i64 0,.int .i64 0,.int .i64 0,.int .i64 0,.int .i64 0,.int .u8 0,.int .i64 0,.int .i64 0]) fun h_42=>obind (stRow h_42 22 t31 (newP h_36)) fun h_44=>callN (call 15 [v13] h_44) fun r35 h_47=>obind (extT 0 r35) fun v36=>obind (extT 1 r35) fun v37=>obind (avBool v37) fun t37=>lett ((t26:Int) == 0) fun (t39:Bool)=>lett (fun (t44:Bool) (h_54:AHeap)=>lett (fun (t49:Bool) (h_57:AHeap)=>lett (fun (t53:Bool) (h_60:AHeap)=>lett (fun (t58:Bool) (h_63:AHeap)=>lett (fun (t61:Bool) (h_66:AHeap)=>lett (fun (t66:Bool) (h_69:AHeap)=>some (.ret (.bool t66),h_69)) fun j66=>ifB t61 (obind (lenL v36) fun t64=>lett ((t64:Int) == 1) fun (t65:Bool)=>j66 t65 h_66) (j66 false h_66)) fun j61=>ifB t58 (j61 t37 h_63) (j61 false h_63)) fun j58=>ifB t53 (obind (ldCell h_60 (AV.ptr (AHeap.next h_36) 20)) fun v56=>obind (avInt .i64 v56) fun t56=>lett ((t56:Int) == 220) fun (t57:Bool)=>j58 t57 h_60) (j58 false h_60)) fun j53=>ifB t49 (lett ((t32:Int) == 0) fun (t52:Bool)=>j53 t52 h_57) (j53 false h_57)) fun j49=>ifB t44 (obind (ldCell h_54 (AV.ptr (AHeap.next h_22) 16)) fun v47=>obind (avInt .i64 v47) fun t47=>lett ((t47:Int) == 1) fun (t48:Bool)=>j49 t48 h_54) (j49 false h_54)) fun j44=>ifB t39 (obind (ldCell h_47 (AV.ptr (AHeap.next h_22) 0)) fun v42=>obind (avInt .u8 v42) fun t42=>lett ((t42:Int) == 10) fun (t43:Bool)=>j44 t43 h_47) (j44 false h_47))) fun j20=>ifB t16 (j20 true h_6) (outK (opBin Try.prog h_6 .eql 25 true (some v13) (some AV.nilp)) fun v19 h_84=>obind (avBool v19) fun t19=>j20 t19 h_84)
set_option maxHeartbeats 4000000 in
set_option maxRecDepth 20000 in
theorem law23_works_ok{call:CallF}(hc:SaysAll Try.prog call){n:Nat}{h:AHeap}{rR:ARes}{hR:AHeap}(hF:law23_works call n h=some (rR,hR)):Says Try.prog 5 [] h rR hR:=by
 unfold law23_works at hF;refine sO Try.func5 fun w0 m0=>wW [] (oG fun n1=>W.r (oA 0 (.bool false) (oV [] (n1 (oG fun n2=>W.r (oC hc (some 9) hF fun r9 h_3 hF=>oA 1 r9 (oV [(1,r9)] (n2 (oG fun n5=>W.r (oA 11 r9 (oC hc (some 12) hF fun r12 h_6 hF=>oA 10 r12 (oE 13 hF fun v13 hF=>oEi 14 hF fun t14 hF=>oA 2 v13 (oA 3 (.int .i64 t14) (oV [(2,v13),(3,.int .i64 t14)] (n5 (oH fun n11 q11=>W.s (fun K12 n12 e12 q12 p12=>W.r (oA 15 (.int .i64 t14) (oB 16 hF fun t16 hF=>oA 17 (.bool t16) ?_)))))))))))))))))));obtain⟨j20,e15,hF⟩:=lett_some hF
 have J16:∀(t20:Bool) (h_14:AHeap),j20 t20 h_14=some (rR,hR)→WL Try.prog w0 m0 (Func.ntmps Try.f5) (Code.ops (y6 (y6 (y3 (y3 (y3 (codeOf Try.f5))))))) 6 K12 [(2,v13),(20,.bool t20)] [] h_14:=by
  intro t20 h_14 hF;rw[e15] at hF;refine oV [(2,v13),(20,.bool t20)] (n12 ?_)
  cases t20 with
  |true=>
   exact oT hF fun hF=>oG fun n17=>W.r (oA 0 (.bool false) (oV [(0,.bool false)] (n17 (oY (q11 (lZ hF [.tmp 0] [.bool false] (rT res_nil)))))))
  |false=>
   refine oU hF fun hF=>oZ (n11 (oG fun n18=>W.r (oA 22 v13 (oCa hc 23 hF fun t23 h_19 hF=>oC hc (some 24) hF fun r24 h_22 hF=>oA 21 r24 (oEa 25 hF fun t25 hF=>oEi 26 hF fun t26 hF=>oN 4 hF fun h_28 hF=>oW 33 (.agg t25) hF fun h_30 hF=>oA 3 (.int .i64 t26) (oV [(2,v13),(3,.int .i64 t26),(4,(newP h_22))] (n18 (oG fun n32=>W.r (oA 28 v13 (oCa hc 29 hF fun t29 h_33 hF=>oC hc (some 30) hF fun r30 h_36 hF=>oA 27 r30 (oEa 31 hF fun t31 hF=>oEi 32 hF fun t32 hF=>oN 5 hF fun h_42 hF=>oW 33 (.agg t31) hF fun h_44 hF=>oA 6 (.int .i64 t32) (oV [(2,v13),(3,.int .i64 t26),(4,(newP h_22)),(5,(newP h_36)),(6,.int .i64 t32)] (n32 (oG fun n46=>W.r (oA 34 v13 (oC hc (some 35) hF fun r35 h_47 hF=>oA 33 r35 (oE 36 hF fun v36 hF=>oEb 37 hF fun t37 hF=>oA 7 v36 (oA 8 (.bool t37) (oV [(3,.int .i64 t26),(4,(newP h_22)),(5,(newP h_36)),(6,.int .i64 t32),(7,v36),(8,.bool t37)] (n46 (W.s (fun K52 n52 e52 q52 p52=>W.r (oA 38 (.int .i64 t26) (oB 39 hF fun t39 hF=>oA 40 (.bool t39) ?_))))))))))))))))))))))));obtain⟨j44,e55,hF⟩:=lett_some hF
   have J56:∀(t44:Bool) (h_54:AHeap),j44 t44 h_54=some (rR,hR)→WL Try.prog w0 m0 (Func.ntmps Try.f5) (Code.ops (y6 (y3 (y3 (y3 (y3 (y3 (y3 (y3 (codeOf Try.f5)))))))))) 7 K52 [(4,(newP h_22)),(5,(newP h_36)),(6,.int .i64 t32),(7,v36),(8,.bool t37),(44,.bool t44)] [] h_54:=by
    intro t44 h_54 hF;rw[e55] at hF;refine oA 45 (.bool t44) ?_;obtain⟨j49,e58,hF⟩:=lett_some hF
    have J59:∀(t49:Bool) (h_57:AHeap),j49 t49 h_57=some (rR,hR)→WL Try.prog w0 m0 (Func.ntmps Try.f5) (Code.ops (y6 (y3 (y3 (y3 (y3 (y3 (y3 (y3 (codeOf Try.f5)))))))))) 12 K52 [(5,(newP h_36)),(6,.int .i64 t32),(7,v36),(8,.bool t37),(49,.bool t49)] [] h_57:=by
     intro t49 h_57 hF;rw[e58] at hF;refine oA 50 (.bool t49) ?_;obtain⟨j53,e61,hF⟩:=lett_some hF
     have J62:∀(t53:Bool) (h_60:AHeap),j53 t53 h_60=some (rR,hR)→WL Try.prog w0 m0 (Func.ntmps Try.f5) (Code.ops (y6 (y3 (y3 (y3 (y3 (y3 (y3 (y3 (codeOf Try.f5)))))))))) 16 K52 [(5,(newP h_36)),(7,v36),(8,.bool t37),(53,.bool t53)] [] h_60:=by
      intro t53 h_60 hF;rw[e61] at hF;refine oA 54 (.bool t53) ?_;obtain⟨j58,e64,hF⟩:=lett_some hF
      have J65:∀(t58:Bool) (h_63:AHeap),j58 t58 h_63=some (rR,hR)→WL Try.prog w0 m0 (Func.ntmps Try.f5) (Code.ops (y6 (y3 (y3 (y3 (y3 (y3 (y3 (y3 (codeOf Try.f5)))))))))) 21 K52 [(7,v36),(8,.bool t37),(58,.bool t58)] [] h_63:=by
       intro t58 h_63 hF;rw[e64] at hF;refine oA 59 (.bool t58) ?_;obtain⟨j61,e67,hF⟩:=lett_some hF
       have J68:∀(t61:Bool) (h_66:AHeap),j61 t61 h_66=some (rR,hR)→WL Try.prog w0 m0 (Func.ntmps Try.f5) (Code.ops (y6 (y3 (y3 (y3 (y3 (y3 (y3 (y3 (codeOf Try.f5)))))))))) 24 K52 [(7,v36),(61,.bool t61)] [] h_66:=by
        intro t61 h_66 hF;rw[e67] at hF;refine oA 62 (.bool t61) ?_;obtain⟨j66,e70,hF⟩:=lett_some hF
        have J71:∀(t66:Bool) (h_69:AHeap),j66 t66 h_69=some (rR,hR)→WL Try.prog w0 m0 (Func.ntmps Try.f5) (Code.ops (y6 (y3 (y3 (y3 (y3 (y3 (y3 (y3 (codeOf Try.f5)))))))))) 29 K52 [(66,.bool t66)] [] h_69:=by
         intro t66 h_69 hF;rw[e70] at hF;exact oA 0 (.bool t66) (oV [(0,.bool t66)] (n52 (oY (lZ hF [.tmp 0] [.bool t66] (rT res_nil)))))
        cases t61 with
        |true=>
         replace hF:=ifB_t hF
         exact oA 63 v36 (oM 64 45 56 hF fun t64 hF=>oB 65 hF fun t65 hF=>oA 66 (.bool t65) (lW _ (J71 _ _ hF)))
        |false=>
         replace hF:=ifB_f hF
         exact WL.o (some 63) (WL.o (some 64) (WL.o (some 65) (oA 66 (.bool false) (lW _ (J71 _ _ hF)))))
       cases t58 with
       |true=>
        replace hF:=ifB_t hF
        exact oA 60 (.bool t37) (oA 61 (.bool t37) (lW _ (J68 _ _ hF)))
       |false=>
        replace hF:=ifB_f hF
        exact WL.o (some 60) (oA 61 (.bool false) (lW _ (J68 _ _ hF)))
      cases t53 with
      |true=>
       replace hF:=ifB_t hF
       exact oA 55 (AV.ptr (AHeap.next h_36) 20) (oLi 56 26 hF fun t56 hF=>oB 57 hF fun t57 hF=>oA 58 (.bool t57) (lW _ (J65 _ _ hF)))
      |false=>
       replace hF:=ifB_f hF
       exact WL.o (some 55) (WL.o (some 56) (WL.o (some 57) (oA 58 (.bool false) (lW _ (J65 _ _ hF)))))
     cases t49 with
     |true=>
      replace hF:=ifB_t hF
      exact oA 51 (.int .i64 t32) (oB 52 hF fun t52 hF=>oA 53 (.bool t52) (lW _ (J62 _ _ hF)))
     |false=>
      replace hF:=ifB_f hF
      exact WL.o (some 51) (WL.o (some 52) (oA 53 (.bool false) (lW _ (J62 _ _ hF))))
    cases t44 with
    |true=>
     replace hF:=ifB_t hF
     exact oA 46 (AV.ptr (AHeap.next h_22) 16) (oLi 47 3 hF fun t47 hF=>oB 48 hF fun t48 hF=>oA 49 (.bool t48) (lW _ (J59 _ _ hF)))
    |false=>
     replace hF:=ifB_f hF
     exact WL.o (some 46) (WL.o (some 47) (WL.o (some 48) (oA 49 (.bool false) (lW _ (J59 _ _ hF)))))
   cases t39 with
   |true=>
    replace hF:=ifB_t hF
    exact oA 41 (AV.ptr (AHeap.next h_22) 0) (oLi 42 5 hF fun t42 hF=>oB 43 hF fun t43 hF=>oA 44 (.bool t43) (lW _ (J56 _ _ hF)))
   |false=>
    replace hF:=ifB_f hF
    exact WL.o (some 41) (WL.o (some 42) (WL.o (some 43) (oA 44 (.bool false) (lW _ (J56 _ _ hF)))))
 cases t16 with
 |true=>
  replace hF:=ifB_t hF
  exact WL.o (some 18) (WL.o (some 19) (oA 20 (.bool true) (lW _ (J16 _ _ hF))))
 |false=>
  replace hF:=ifB_f hF
  refine oA 18 v13 ?_
  replace hF:=outK_some hF;obtain⟨v19,h_84,e85,hF⟩:=hF
  replace hF:=obind_some hF;obtain⟨t19,c86,hF⟩:=hF
  have c86:=avBool_some c86;subst c86;exact WL.b (some 19) (.bool t19) h_84 e85 (oA 20 (.bool t19) (lW _ (J16 _ _ hF)))
noncomputable def law23_heavy_L0b(t0:AV)(t7:Int)(k7:AHeap→R)(self:Int→Int→AHeap→R)(t3:Int)(t8:Int)(h_13:AHeap):R:=
 lett (decide (t8<t7)) fun (t9:Bool)=>
 ifB t9
 (
  obind (idxP 26 t0 t8) fun t10=>
  obind (ldRow h_13 26 t10) fun t11=>
  lett (newH h_13 51 [.int .i64 0,.int .i64 0,.int .u8 0,.int .i64 0,.int .i64 0,.int .i64 0,.int .i64 0,.int .i64 0,.int .i64 0,.int .i64 0,.bool false,.nsl,.int .i64 0,.int .i64 0,.str 0 0,.int .i64 0,.int .i64 0,.int .i64 0,.int .i64 0,.int .i64 0,.int .i64 0,.int .u8 0,.int .i64 0,.int .i64 0,.str 0 0,.int .i64 0]) fun h_22=>
  obind (stRow h_22 26 t11 (newP h_13)) fun h_24=>
  obind (ldCell h_24 (AV.ptr (AHeap.next h_13) 24)) fun v14=>
  obind (avStr v14) fun t14=>
  obind (ldCell h_24 (AV.ptr (AHeap.next h_13) 14)) fun v18=>
  obind (avStr v18) fun t18=>
  lett (IntKind.i64.wrap ((lenS t14)+(lenS t18))) fun (t20:Int)=>
  lett (if 65536<t20 then 65536 else t20) fun (t21:Int)=>
  lett (IntKind.i64.wrap (t3+t21)) fun (t22:Int)=>
  lett (decide (t22>16384)) fun (t24:Bool)=>
  ifB t24
  (
   some (.ret (.bool true),h_24))
  (
   lett (IntKind.i64.wrap (t8+1)) fun (t25:Int)=>
   self t22 t25 h_24))
 (
  k7 h_13)
noncomputable def law23_heavy_L0(t0:AV)(t7:Int)(k7:AHeap→R):Nat→Int→Int→AHeap→R:=iterR (fun _ _ _=>none) (law23_heavy_L0b t0 t7 k7)
theorem law23_heavy_L0_s(t0:AV)(t7:Int)(k7:AHeap→R)(m:Nat):law23_heavy_L0 t0 t7 k7 (m+1)=law23_heavy_L0b t0 t7 k7 (law23_heavy_L0 t0 t7 k7 m):=rfl
noncomputable def law23_heavy(_:CallF)(n:Nat)(t0:AV)(h:AHeap):R:=obind (lenL t0) fun t7=>lett (fun (h_8:AHeap)=>obind (lenL t0) fun t27=>lett (decide (t27>120)) fun (t28:Bool)=>some (.ret (.bool t28),h_8)) fun k7=>law23_heavy_L0 t0 t7 k7 n 0 0 h
set_option maxHeartbeats 4000000 in
set_option maxRecDepth 20000 in
theorem law23_heavy_ok{call:CallF}(_:SaysAll Try.prog call){n:Nat}{t0:AV}{h:AHeap}{rR:ARes}{hR:AHeap}(hF:law23_heavy call n t0 h=some (rR,hR)):Says Try.prog 16 [t0] h rR hR:=by
 unfold law23_heavy at hF;refine sO Try.func16 fun w0 m0=>wW [(0,t0)] (oG fun n1=>W.r (oA 2 (.bool false) (oV [(0,t0)] (n1 (oG fun n2=>W.r (oA 3 (.int .i64 0) (oV [(0,t0),(3,.int .i64 0)] (n2 (W.s (fun K3 n3 e3 q3 p3=>oG fun n4=>W.r (oA 6 t0 (oM 7 48 51 hF fun t7 hF=>oA 8 (.int .i64 0) (oV [(0,t0),(3,.int .i64 0),(6,t0),(7,.int .i64 t7),(8,.int .i64 0)] (n4 ?_))))))))))))));obtain⟨k7,e7,hF⟩:=lett_some hF
 have J7:∀(h_8:AHeap),k7 h_8=some (rR,hR)→Go w0 m0 (Func.ntmps Try.f16) (K3 .normal) [(0,t0)] [] h_8:=by
  intro h_8 hF;rw[e7] at hF;exact n3 (oG fun n9=>W.r (oA 26 t0 (oM 27 48 51 hF fun t27 hF=>oB 28 hF fun t28 hF=>oA 2 (.bool t28) (oV [(2,.bool t28)] (n9 (oY (lZ hF [.tmp 2] [.bool t28] (rT res_nil))))))))
 refine W.blockK (by kernel_rfl) (fun K6 n6 s6 o6 q6 p6=>W.loopK (by kernel_rfl) (fun I12 K12 b12 n12 e12 q12 p12=>?_))
 have L12:∀(m:Nat) (t3:Int) (t8:Int) (h_13:AHeap),law23_heavy_L0 t0 t7 k7 m t3 t8 h_13=some (rR,hR)→Go w0 m0 (Func.ntmps Try.f16) I12 [(0,t0),(3,.int .i64 t3),(6,t0),(7,.int .i64 t7),(8,.int .i64 t8)] [] h_13:=by
  intro m
  induction m with
  |zero=>intro t3 t8 h_13 hF;cases hF
  |succ m ih12=>
   intro t3 t8 h_13 hF;rw[law23_heavy_L0_s] at hF;unfold law23_heavy_L0b at hF;refine b12 (oG fun n14=>W.r (oB 9 hF fun t9 hF=>oV [(0,t0),(3,.int .i64 t3),(6,t0),(7,.int .i64 t7),(8,.int .i64 t8),(9,.bool t9)] (n14 (W.s (fun K16 n16 e16 q16 p16=>?_)))))
   cases t9 with
   |true=>
    refine oT hF fun hF=>oZ (n16 (oH fun n17 q17=>W.blockK (by kernel_rfl) (fun K18 n18 s18 o18 q18 p18=>oG fun n19=>W.r (oP 10 48 51 .i64 hF fun t10 hF=>oR 11 51 hF fun t11 hF=>oN 5 hF fun h_22 hF=>oW 51 (.agg t11) hF fun h_24 hF=>oV [(0,t0),(3,.int .i64 t3),(5,(newP h_13)),(6,t0),(7,.int .i64 t7),(8,.int .i64 t8)] (n19 (oG fun n26=>W.r (oA 12 (.int .i64 t3) (oA 13 (AV.ptr (AHeap.next h_13) 24) (oLs 14 9 hF fun t14 hF=>oA 15 (.int .i64 (lenS t14)) (oA 16 (AV.ptr (AHeap.next h_13) 2) (oA 17 (AV.ptr (AHeap.next h_13) 14) (oLs 18 9 hF fun t18 hF=>oA 19 (.int .i64 (lenS t18)) (oI 20 .i64 hF fun t20 hF=>oI 21 .i64 hF fun t21 hF=>oI 22 .i64 hF fun t22 hF=>oA 3 (.int .i64 t22) (oV [(0,t0),(3,.int .i64 t22),(6,t0),(7,.int .i64 t7),(8,.int .i64 t8)] (n26 (oG fun n34=>W.r (oA 23 (.int .i64 t22) (oB 24 hF fun t24 hF=>oV [(0,t0),(3,.int .i64 t22),(6,t0),(7,.int .i64 t7),(8,.int .i64 t8),(24,.bool t24)] (n34 ?_)))))))))))))))))))
    cases t24 with
    |true=>
     exact oT hF fun hF=>oG fun n36=>W.r (oA 2 (.bool true) (oV [(2,.bool true)] (n36 (oY (q18 (q17 (q12 (q6 (q3 (lZ hF [.tmp 2] [.bool true] (rT res_nil)))))))))))
    |false=>
     exact oU hF fun hF=>oZ (n18 (n17 (W.r (oI 25 .i64 hF fun t25 hF=>oA 8 (.int .i64 t25) (oV [(0,t0),(3,.int .i64 t22),(6,t0),(7,.int .i64 t7),(8,.int .i64 t25)] (n12 (gW _ (ih12 _ _ _ hF))))))))
   |false=>
    exact oU hF fun hF=>W.exit (by kernel_rfl) (e16 (e12 (s6 (by kernel_rfl) (gW _ (J7 _ hF)))))
 exact gW _ (L12 _ _ _ _ hF)
noncomputable def law23_same_L0b(t0:AV)(t1:AV)(t12:Int)(k12:AHeap→R)(self:Int→AHeap→R)(t13:Int)(h_16:AHeap):R:=lett (decide (t13<t12)) fun (t14:Bool)=>ifB t14 (obind (idxP 5 t0 t13) fun t18=>obind (ldRow h_16 5 t18) fun t19=>obind (idxP 5 t1 t13) fun t22=>obind (ldRow h_16 5 t22) fun t23=>obind (eqOther Try.prog 56 (.agg t19) (.agg t23)) fun t24=>lett (!t24) fun (t24_29:Bool)=>ifB t24_29 (some (.ret (.bool false),h_16)) (lett (IntKind.i64.wrap (t13+1)) fun (t25:Int)=>self t25 h_16)) (k12 h_16)
noncomputable def law23_same_L0(t0:AV)(t1:AV)(t12:Int)(k12:AHeap→R):Nat→Int→AHeap→R:=iterR (fun _ _=>none) (law23_same_L0b t0 t1 t12 k12)
theorem law23_same_L0_s(t0:AV)(t1:AV)(t12:Int)(k12:AHeap→R)(m:Nat):law23_same_L0 t0 t1 t12 k12 (m+1)=law23_same_L0b t0 t1 t12 k12 (law23_same_L0 t0 t1 t12 k12 m):=rfl
noncomputable def law23_same(_:CallF)(n:Nat)(t0:AV)(t1:AV)(h:AHeap):R:=obind (lenL t0) fun t7=>obind (lenL t1) fun t9=>lett ((t7:Int) != t9) fun (t10:Bool)=>ifB t10 (some (.ret (.bool false),h)) (obind (lenL t0) fun t12=>lett (fun (h_13:AHeap)=>some (.ret (.bool true),h_13)) fun k12=>law23_same_L0 t0 t1 t12 k12 n 0 h)
set_option maxHeartbeats 4000000 in
set_option maxRecDepth 20000 in
theorem law23_same_ok{call:CallF}(hc:SaysAll Try.prog call){n:Nat}{t0:AV}{t1:AV}{h:AHeap}{rR:ARes}{hR:AHeap}(hF:law23_same call n t0 t1 h=some (rR,hR)):Says Try.prog 18 [t0,t1] h rR hR:=by
 unfold law23_same at hF;refine sO Try.func18 fun w0 m0=>wW [(0,t0),(1,t1)] (oG fun n1=>W.r (oA 4 (.bool false) (oV [(0,t0),(1,t1)] (n1 (oH fun n2 q2=>oG fun n3=>W.r (oA 6 t0 (oM 7 45 56 hF fun t7 hF=>oA 8 t1 (oM 9 45 56 hF fun t9 hF=>oB 10 hF fun t10 hF=>oV [(0,t0),(1,t1),(10,.bool t10)] (n3 ?_)))))))))
 cases t10 with
 |true=>
  exact oT hF fun hF=>oG fun n7=>W.r (oA 4 (.bool false) (oV [(4,.bool false)] (n7 (oY (q2 (lZ hF [.tmp 4] [.bool false] (rT res_nil)))))))
 |false=>
  refine oU hF fun hF=>oZ (n2 (W.s (fun K8 n8 e8 q8 p8=>oG fun n9=>W.r (oA 11 t0 (oM 12 45 56 hF fun t12 hF=>oA 13 (.int .i64 0) (oV [(0,t0),(1,t1),(12,.int .i64 t12),(13,.int .i64 0)] (n9 ?_)))))));obtain⟨k12,e12,hF⟩:=lett_some hF
  have J12:∀(h_13:AHeap),k12 h_13=some (rR,hR)→Go w0 m0 (Func.ntmps Try.f18) (K8 .normal) [] [] h_13:=by
   intro h_13 hF;rw[e12] at hF;exact n8 (oG fun n14=>W.r (oA 4 (.bool true) (oV [(4,.bool true)] (n14 (oY (lZ hF [.tmp 4] [.bool true] (rT res_nil)))))))
  refine W.blockK (by kernel_rfl) (fun K11 n11 s11 o11 q11 p11=>W.loopK (by kernel_rfl) (fun I15 K15 b15 n15 e15 q15 p15=>?_))
  have L15:∀(m:Nat) (t13:Int) (h_16:AHeap),law23_same_L0 t0 t1 t12 k12 m t13 h_16=some (rR,hR)→Go w0 m0 (Func.ntmps Try.f18) I15 [(0,t0),(1,t1),(12,.int .i64 t12),(13,.int .i64 t13)] [] h_16:=by
   intro m
   induction m with
   |zero=>intro t13 h_16 hF;cases hF
   |succ m ih15=>
    intro t13 h_16 hF;rw[law23_same_L0_s] at hF;unfold law23_same_L0b at hF;refine b15 (oG fun n17=>W.r (oB 14 hF fun t14 hF=>oV [(0,t0),(1,t1),(12,.int .i64 t12),(13,.int .i64 t13),(14,.bool t14)] (n17 (W.s (fun K19 n19 e19 q19 p19=>?_)))))
    cases t14 with
    |true=>
     refine oT hF fun hF=>oZ (n19 (oH fun n20 q20=>W.blockK (by kernel_rfl) (fun K21 n21 s21 o21 q21 p21=>oG fun n22=>W.r (oA 15 (.int .i64 t13) (oA 5 (.int .i64 t13) (oV [(0,t0),(1,t1),(5,.int .i64 t13),(12,.int .i64 t12),(13,.int .i64 t13)] (n22 (oG fun n23=>y15 (by kernel_rfl) (hc.ok w0) (plan:=[0,1,2,3,4,5,6,7,8]) (by kernel_rfl) (by kernel_rfl) (by kernel_rfl) (WD.a 0 (some 16) t0 h_16 (WD.a 0 (some 17) (.int .i64 t13) h_16 ?_))))))))));obtain⟨t18,e24,hF⟩:=obind_some hF;refine WD.b 0 (some 18) t18 h_16 (index_row (P:=Try.prog) (h:=h_16) (t:=45) (e':=56) (k:=.i64) (by kernel_rfl) (by kernel_rfl) (by kernel_rfl) e24) ?_;obtain⟨t19,e25,hF⟩:=obind_some hF;refine WD.b 1 (some 19) (.agg t19) h_16 (load_row (P:=Try.prog) (h:=h_16) (t:=56) (by kernel_rfl) (by kernel_rfl) e25) (WD.a 0 (some 20) t1 h_16 (WD.a 0 (some 21) (.int .i64 t13) h_16 ?_));obtain⟨t22,e26,hF⟩:=obind_some hF;refine WD.b 0 (some 22) t22 h_16 (index_row (P:=Try.prog) (h:=h_16) (t:=45) (e':=56) (k:=.i64) (by kernel_rfl) (by kernel_rfl) (by kernel_rfl) e26) ?_;obtain⟨t23,e27,hF⟩:=obind_some hF;refine WD.b 1 (some 23) (.agg t23) h_16 (load_row (P:=Try.prog) (h:=h_16) (t:=56) (by kernel_rfl) (by kernel_rfl) e27) ?_;obtain⟨t24,e28,hF⟩:=obind_some hF;obtain⟨t24_29,e30,hF⟩:=lett_some hF;refine WD.val (d:=(some 24)) (v:=.bool t24_29) (h':=h_16) (by kernel_rfl) (by kernel_rfl) (val_of AV.bool e30 (Eq.trans (by kernel_rfl) (neq_other (P:=Try.prog) (h:=h_16) (t:=56) (lit:=false) (by kernel_rfl) e28))) (k:=0) (by kernel_rfl) (fun e=>absurd e (by decide)) (by decide) (WD.nil (gW [(0,t0),(1,t1),(12,.int .i64 t12),(13,.int .i64 t13),(24,.bool t24_29)] (n23 ?_)))
     cases t24_29 with
     |true=>
      exact oT hF fun hF=>oG fun n31=>W.r (oA 4 (.bool false) (oV [(4,.bool false)] (n31 (oY (q21 (q20 (q15 (q11 (q8 (lZ hF [.tmp 4] [.bool false] (rT res_nil)))))))))))
     |false=>
      exact oU hF fun hF=>oZ (n21 (n20 (W.r (oI 25 .i64 hF fun t25 hF=>oA 13 (.int .i64 t25) (oV [(0,t0),(1,t1),(12,.int .i64 t12),(13,.int .i64 t25)] (n15 (gW _ (ih15 _ _ hF))))))))
    |false=>
     exact oU hF fun hF=>W.exit (by kernel_rfl) (e19 (e15 (s11 (by kernel_rfl) (gW _ (J12 _ hF)))))
  exact gW _ (L15 _ _ _ hF)
noncomputable def law23_ask(_:CallF)(_:Nat)(t0:Int)(t1:Int)(t2:Int)(t3:Int)(t4:Bytes)(h:AHeap):R:=lett (newH h 33 [.int .u8 0,.int .i64 0,.int .i64 0,.int .i64 0,.int .i64 0,.int .i64 0,.int .i64 0,.int .i64 0,.bool false,.nsl,.int .i64 0,.int .i64 0,.str 0 0,.int .i64 0,.int .i64 0,.int .i64 0,.int .i64 0,.int .i64 0,.int .i64 0,.int .u8 0,.int .i64 0,.int .i64 0]) fun h_2=>obind (bldS Try.prog 33 [(0,.int .u8 t0),(2,.int .i64 3),(13,.int .i64 1),(14,.agg ([.int .i64 t1,.int .i64 t2]:List AV)),(15,.int .i64 t3),(12,strA t4)]) fun t17=>obind (stRow h_2 22 t17 (newP h)) fun h_6=>obind (ldRow h_6 22 (newP h)) fun w10=>some (.ret (.agg w10),h_6)
set_option maxHeartbeats 4000000 in
set_option maxRecDepth 20000 in
theorem law23_ask_ok{call:CallF}(_:SaysAll Try.prog call){n:Nat}{t0:Int}{t1:Int}{t2:Int}{t3:Int}{t4:Bytes}{h:AHeap}{rR:ARes}{hR:AHeap}(hF:law23_ask call n t0 t1 t2 t3 t4 h=some (rR,hR)):Says Try.prog 9 [.int .u8 t0,.int .i64 t1,.int .i64 t2,.int .i64 t3,strA t4] h rR hR:=by
 unfold law23_ask at hF;refine sO Try.func9 fun w0 m0=>wW [(0,.int .u8 t0),(1,.int .i64 t1),(2,.int .i64 t2),(3,.int .i64 t3),(4,strA t4)] (oG fun n1=>W.r (oN 10 hF fun h_2 hF=>oV [(0,.int .u8 t0),(1,.int .i64 t1),(2,.int .i64 t2),(3,.int .i64 t3),(4,strA t4),(10,(newP h))] (n1 (oG fun n4=>W.r (oA 11 (.int .u8 t0) (oA 12 (.int .i64 t1) (oA 13 (.int .i64 t2) (oA 14 (.agg ([.int .i64 t1,.int .i64 t2]:List AV)) (oA 15 (.int .i64 t3) (oA 16 (strA t4) ?_))))))))));obtain⟨t17,e5,hF⟩:=obind_some hF;refine WL.val (d:=(some 17)) (v:=.agg t17) (h':=h_2) (by kernel_rfl) (by kernel_rfl) (bld_ok (by kernel_rfl) e5) (oW 33 (.agg t17) hF fun h_6 hF=>oV [(10,(newP h))] (n4 (oY ?_)));obtain⟨w10,e8,hF⟩:=obind_some hF;exact lZ hF [.cell 10 33] [.agg w10] (rY e8 res_nil)
noncomputable def wLS(n:Nat):List LSite:=[journal_Journal_read_R0 n,law23_list_R0 n]
theorem wLS_ok(n:Nat):∀s∈wLS n,s.ok Try.prog:=by
 intro s hs;unfold wLS at hs
 rcases List.mem_cons.1 hs with rfl|hs
 ·exact journal_Journal_read_R0_ok n
 rcases List.mem_cons.1 hs with rfl|hs
 ·exact law23_list_R0_ok n
 cases hs
theorem wLS_journal_Journal_read_R0(n:Nat)(st:LoopState)(j:AJump)(t:T AV)(D:Nat):lsite (wLS n) ⟨st,j,t,(journal_Journal_read_R0 n).N,y16 (journal_Journal_read_R0 n).c,y1d (journal_Journal_read_R0 n).c,y18 (journal_Journal_read_R0 n).c,D⟩=some (journal_Journal_read_R0 n):=lsite_hit rfl rfl rfl
theorem wLS_law23_list_R0(n:Nat)(st:LoopState)(j:AJump)(t:T AV)(D:Nat):lsite (wLS n) ⟨st,j,t,(law23_list_R0 n).N,y16 (law23_list_R0 n).c,y1d (law23_list_R0 n).c,y18 (law23_list_R0 n).c,D⟩=some (law23_list_R0 n):=(lsite_miss (by kernel_rfl)).trans (lsite_hit rfl rfl rfl)
noncomputable def wLT(n:Nat)(both:BothF):List (FuncId×FnT):=[(57,frame_All_1_fn both n),(56,journal_Journal_All_1_fn both n),(33,journal_Journal_read_fn both n),(15,law23_list_fn both n),(20,fn1 Dv (journal_Open (both false) n)),(7,fn1 Dv (gateway_Open (both false) n)),(5,fn0 (law23_works (both false) n)),(16,fn1 Dv (law23_heavy (both false) n)),(18,fn2 Dv Dv (law23_same (both false) n)),(9,fn5 (Di .u8) (Di .i64) (Di .i64) (Di .i64) Ds (law23_ask (both false) n))]
theorem wLT_ok(n:Nat)(both:BothF)(hc:BothAll Try.prog both):SaysAll Try.prog (callOf (wLT n both)):=callOf_cons (frame_All_1_holds hc n) (callOf_cons (journal_Journal_All_1_holds hc n) (callOf_cons (journal_Journal_read_holds hc n) (callOf_cons (law23_list_holds hc n) (callOf_cons (fn1_holds Dv (journal_Open_ok hc.says)) (callOf_cons (fn1_holds Dv (gateway_Open_ok hc.says)) (callOf_cons (fn0_holds (law23_works_ok hc.says)) (callOf_cons (fn1_holds Dv (law23_heavy_ok hc.says)) (callOf_cons (fn2_holds Dv Dv (law23_same_ok hc.says)) (callOf_cons (fn5_holds (Di .u8) (Di .i64) (Di .i64) (Di .i64) Ds (law23_ask_ok hc.says)) (callOf_nil))))))))))
noncomputable def wL(n D d:Nat):BothF:=worldL (wLS n) (wLT n) (world n D) d
theorem wL_ok(n D d:Nat):BothAll Try.prog (wL n D d):=worldL_ok (wLS_ok n) (wLT_ok n) (world_ok n D) d
theorem wL_r(n D d b:Nat)(args:List AV)(h:AHeap):wL n D (d+1) true b args h=roundL (wLS n) (wL n D d) b args h:=rfl
theorem wL_b(f:FuncId){n D d:Nat}{args:List AV}{h:AHeap}(hf:([57,56,33,15,20,7,5,16,18,9].all fun i=> !Nat.beq i f)=true:=by kernel_rfl):wL n D (d+1) false f args h=world n D f args h:=worldL_base (callOf_none _ _ _ hf)
theorem wL_frame_All_1(n D d:Nat)(t0:AV)(t1:AV){h:AHeap}{x:ARes×AHeap}(e:frame_All_1 (wL n D d) n t0 t1 h=some x):wL n D (d+1) false 57 [t0,t1] h=some x:=
 worldL_top (Eq.trans (b:=frame_All_1_fn (wL n D d) n [t0,t1] h) (by kernel_rfl) ((frame_All_1_fn_eq (wL n D d) n t0 t1 h).trans e))
theorem wL_journal_Journal_All_1(n D d:Nat)(t0:AV)(t1:AV){h:AHeap}{x:ARes×AHeap}(e:journal_Journal_All_1 (wL n D d) n t0 t1 h=some x):wL n D (d+1) false 56 [t0,t1] h=some x:=
 worldL_top (Eq.trans (b:=journal_Journal_All_1_fn (wL n D d) n [t0,t1] h) (by kernel_rfl) ((journal_Journal_All_1_fn_eq (wL n D d) n t0 t1 h).trans e))
theorem wL_journal_Journal_read(n D d:Nat)(t0:AV)(t1:Bytes){h:AHeap}{x:ARes×AHeap}(e:journal_Journal_read (wL n D d) n t0 t1 h=some x):wL n D (d+1) false 33 [t0,strA t1] h=some x:=
 worldL_top (Eq.trans (b:=journal_Journal_read_fn (wL n D d) n [t0,strA t1] h) (by kernel_rfl) ((journal_Journal_read_fn_eq (wL n D d) n t0 t1 h).trans e))
theorem wL_law23_list(n D d:Nat)(t0:AV){h:AHeap}{x:ARes×AHeap}(e:law23_list (wL n D d) n t0 h=some x):wL n D (d+1) false 15 [t0] h=some x:=
 worldL_top (Eq.trans (b:=law23_list_fn (wL n D d) n [t0] h) (by kernel_rfl) ((law23_list_fn_eq (wL n D d) n t0 h).trans e))
theorem wL_journal_Open(n D d:Nat)(t0:AV){h:AHeap}{x:ARes×AHeap}(e:journal_Open ((wL n D d) false) n t0 h=some x):wL n D (d+1) false 20 [t0] h=some x:=
 worldL_top (Eq.trans (b:=fn1 Dv (journal_Open ((wL n D d) false) n) [t0] h) (by kernel_rfl) ((fn1_eq Dv _ t0 h).trans e))
theorem wL_gateway_Open(n D d:Nat)(t0:AV){h:AHeap}{x:ARes×AHeap}(e:gateway_Open ((wL n D d) false) n t0 h=some x):wL n D (d+1) false 7 [t0] h=some x:=
 worldL_top (Eq.trans (b:=fn1 Dv (gateway_Open ((wL n D d) false) n) [t0] h) (by kernel_rfl) ((fn1_eq Dv _ t0 h).trans e))
theorem wL_law23_works(n D d:Nat){h:AHeap}{x:ARes×AHeap}(e:law23_works ((wL n D d) false) n h=some x):wL n D (d+1) false 5 [] h=some x:=
 worldL_top (Eq.trans (b:=fn0 (law23_works ((wL n D d) false) n) [] h) (by kernel_rfl) ((fn0_eq _ h).trans e))
theorem wL_law23_heavy(n D d:Nat)(t0:AV){h:AHeap}{x:ARes×AHeap}(e:law23_heavy ((wL n D d) false) n t0 h=some x):wL n D (d+1) false 16 [t0] h=some x:=
 worldL_top (Eq.trans (b:=fn1 Dv (law23_heavy ((wL n D d) false) n) [t0] h) (by kernel_rfl) ((fn1_eq Dv _ t0 h).trans e))
theorem wL_law23_same(n D d:Nat)(t0:AV)(t1:AV){h:AHeap}{x:ARes×AHeap}(e:law23_same ((wL n D d) false) n t0 t1 h=some x):wL n D (d+1) false 18 [t0,t1] h=some x:=
 worldL_top (Eq.trans (b:=fn2 Dv Dv (law23_same ((wL n D d) false) n) [t0,t1] h) (by kernel_rfl) ((fn2_eq Dv Dv _ t0 t1 h).trans e))
theorem wL_law23_ask(n D d:Nat)(t0:Int)(t1:Int)(t2:Int)(t3:Int)(t4:Bytes){h:AHeap}{x:ARes×AHeap}(e:law23_ask ((wL n D d) false) n t0 t1 t2 t3 t4 h=some x):wL n D (d+1) false 9 [.int .u8 t0,.int .i64 t1,.int .i64 t2,.int .i64 t3,strA t4] h=some x:=
 worldL_top (Eq.trans (b:=fn5 (Di .u8) (Di .i64) (Di .i64) (Di .i64) Ds (law23_ask ((wL n D d) false) n) [.int .u8 t0,.int .i64 t1,.int .i64 t2,.int .i64 t3,strA t4] h) (by kernel_rfl) ((fn5_eq (Di .u8) (Di .i64) (Di .i64) (Di .i64) Ds _ t0 t1 t2 t3 t4 h).trans e))
end Go.Proofs.Ytfcedccphhmdgaa
namespace Go.Proofs.Ytfcedccphhmdgaa.Abs
noncomputable section
open Go.RowKit
def BuB(U8:TypeId)(h:AHeap)(b c:Nat)(buf:AV)(l:Bytes):Prop:=
 (buf=.nsl∧l=[]∧c=b)∨(buf=.sl c 0 l.length 1∧l≠[]∧c≠b∧c<h.next∧RowH h c U8 (bytesC l))
section
variable {P:Program}{TB U8:TypeId}{h h':AHeap}{b c:Nat}{buf:AV}{l:Bytes}{S:List Nat}
theorem BuB.one(k:BuB U8 h b c buf l):buf.one=true∧AV.cells buf=[buf]∧lenL buf=some (l.length:Int):=by
 rcases k with⟨rfl,rfl,_⟩|⟨rfl,_⟩<;>exact⟨rfl,rfl,rfl⟩
end
end
noncomputable section
open Go.RowKit
def kindV:AV→Nat
 | .bool _=>0
 | .int _ _=>1
 | .str _ _=>2
 |_=>9
def kindT(P:Program)(t:TypeId):Nat:=match P.underlying t with
 |some .bool=>0
 |some (.int _)=>1
 |some .string=>2
 |_=>8
def fieldsFlat(P:Program):List Field→List Nat→Nat→Bool
 |[],[],_=>true
 |f::fs,k::ks,o=>(f.name != "_")&&Nat.beq f.offset o&&Nat.beq (kindT P f.type) k&&fieldsFlat P fs ks (o+1)
 |_,_,_=>false
def eqCell:AV→AV→Option Bool
 | .bool a,.bool b=>some (a == b)
 | .int k a,.int k' b=>if k=k' then some (a == b) else none
 | .str n a,.str m b=>some (Nat.beq n m&&Nat.beq a b)
 |_,_=>none
def eqL:List Nat→List AV→List AV→Option Bool
 |[],[],[]=>some true
 |k::ks,x::xs,y::ys=>if kindV x=k then match eqCell x y with
  |some true=>eqL ks xs ys
  |r=>r else none
 |_,_,_=>none
section
variable {P:Program}
theorem eqA_cell{d:Nat}{t:TypeId}{x y:AV}{b:Bool}(hk:kindV x=kindT P t)(he:eqCell x y=some b):eqA P (d+1) t x y=some b:=by
 unfold kindT at hk;unfold eqA;cases hu:P.underlying t with
 |none=>rw[hu] at hk;cases x<;>simp[kindV] at hk
 |some u=>
  rw[hu] at hk
  cases u<;>cases x<;>simp[kindV] at hk<;>cases y<;>simp[eqCell] at he<;>simp_all
theorem partA_cell{t:TypeId}{l:List AV}{o:Nat}{x:AV}(hk:kindT P t<3)(hx:l[o]? =some x):partA P t l o=some x:=by
 unfold kindT at hk;unfold partA;cases hu:P.underlying t with
 |none=>rw[hu] at hk;simp at hk
 |some u=>
  rw[hu] at hk
  cases u<;>simp at hk<;>simp[aggO,hu,isRowD,hx]
theorem kind_lt{x y:AV}{b:Bool}(he:eqCell x y=some b):kindV x<3:=by
 cases x<;>cases y<;>simp[eqCell] at he<;>simp[kindV]
theorem eqFields_flat:∀(fs:List Field) (ks:List Nat) (o d:Nat) (xs ys px py:List AV) (b:Bool),fieldsFlat P fs ks o=true→px.length=o→py.length=o→eqL ks xs ys=some b→fs.length<d→eqFields P (d+1) fs (px++xs) (py++ys)=some b
 |[],ks,o,d,xs,ys,px,py,b,hf,_,_,he,_=>by
  cases ks with
  |cons k ks=>simp[fieldsFlat] at hf
  |nil=>
   cases xs<;>cases ys<;>simp[eqL] at he
   subst he;rfl
 |f::fs,ks,o,d,xs,ys,px,py,b,hf,hx,hy,he,hd=>by
  cases ks with
  |nil=>simp[fieldsFlat] at hf
  |cons k ks=>
   cases xs with
   |nil=>simp[eqL] at he
   |cons x xs=>
    cases ys with
    |nil=>simp[eqL] at he
    |cons y ys=>
     simp only[fieldsFlat,Bool.and_eq_true] at hf;obtain⟨⟨⟨h1,h2⟩,h3⟩,h4⟩:=hf;have h1:¬f.name= "_" :=by simpa using h1
     have h2:=Nat.eq_of_beq_eq_true h2;have h3:=Nat.eq_of_beq_eq_true h3;simp only[eqL] at he
     split at he
     ·rename_i hk
      have hlx:(px++x::xs)[o]? =some x:=by rw[List.getElem?_append_right (by omega),hx,Nat.sub_self];rfl
      have hly:(py++y::ys)[o]? =some y:=by rw[List.getElem?_append_right (by omega),hy,Nat.sub_self];rfl
      obtain⟨d',rfl⟩:∃d',d=d'+1:=⟨d - 1,by simp only[List.length_cons] at hd;omega⟩;cases hc:eqCell x y with
      |none=>rw[hc] at he;cases he
      |some c=>
       have hk3:=kind_lt hc;rw[hc] at he;unfold eqFields;rw[if_neg h1,h2,partA_cell (by omega) hlx,partA_cell (by omega) hly]
       simp only
       rw[eqA_cell (d:=d') (by omega) hc]
       cases c with
       |false=>exact he
       |true=>
        simp only at he ⊢
        have:=eqFields_flat fs ks (o+1) d' xs ys (px++[x]) (py++[y]) b h4 (by simp[hx]) (by simp[hy]) he (by simp only[List.length_cons] at hd;omega)
        simpa using this
     ·cases he
def flatB(P:Program)(t:TypeId)(ks:List Nat):Bool:=(match P.underlying t with
 |some (.struct _)=>true
 |_=>false)&& !(P.eqGuardType P.depth t)&& !(P.stoodInHeld t)&&fieldsFlat P (P.fieldsOf t).toList ks 0&&Nat.blt (P.fieldsOf t).toList.length 1000
theorem eq_flat{t:TypeId}{ks:List Nat}{xs ys:List AV}{b:Bool}(hf:flatB P t ks=true)(he:eqL ks xs ys=some b):eqOther P t (.agg xs) (.agg ys)=some b:=by
 unfold flatB at hf;simp only[Bool.and_eq_true,Bool.not_eq_true'] at hf;obtain⟨⟨⟨⟨h1,h2⟩,h3⟩,h4⟩,h5⟩:=hf;have h5:(P.fieldsOf t).toList.length <1000:=Nat.le_of_ble_eq_true h5;unfold eqOther;simp only[h2,Bool.false_eq_true,if_false];unfold eqA;cases hu:P.underlying t with
 |none=>rw[hu] at h1;cases h1
 |some u=>
  rw[hu] at h1
  cases u<;>simp at h1
  simp only[h3,Bool.false_eq_true,if_false];exact eqFields_flat _ ks 0 1998 xs ys [] [] b h4 rfl rfl he (by omega)
end
theorem eqCell_int(k:IntKind)(a b:Int):eqCell (.int k a) (.int k b)=some (a == b):=by simp[eqCell]
theorem eqL_cons{k:Nat}{ks:List Nat}{x y:AV}{xs ys:List AV}{b c:Bool}(hk:kindV x=k)(h1:eqCell x y=some b)(h2:eqL ks xs ys=some c):eqL (k::ks) (x::xs) (y::ys)=some (b&&c):=by
 simp only[eqL,hk,if_true,h1]
 cases b with
 |true=>simpa using h2
 |false=>rfl
end
noncomputable section
open Go.RowKit
abbrev RowT:=Nat×TypeId×List AV
structure Mem (S:List Nat) (h0 h:AHeap) (rs:List RowT):Prop where
 row:∀x∈rs,RowH h x.1 x.2.1 x.2.2∧x.1<h.next∧(x.1∈S∨h0.next≤x.1)
 apart:(rs.map (·.1)).Nodup
 tch:Tch S h0 h
section
variable {S:List Nat}{h0 h h':AHeap}{xs ys rs:List RowT}{b o n:Nat}{e:TypeId}{l l' vs:List AV}{v:AV}{Q:ARes→AHeap→Prop}{K:AHeap→R}{x:R}{x0 x1 x2 x3 x4:RowT}
theorem Mem.nil(S:List Nat)(h:AHeap):Mem S h h []:=⟨by simp,by simp,Tch.refl _ _⟩
theorem Mem.one(k:RowH h b e l)(hb:b<h.next):Mem [b] h h [(b,e,l)]:=⟨by simpa using ⟨k,hb⟩,by simp,Tch.refl _ _⟩
theorem Mem.at(M:Mem S h0 h (xs++(b,e,l)::ys)):RowH h b e l∧b<h.next∧(b∈S∨h0.next≤b):=M.row (b,e,l) (by simp)
theorem Mem.upd(M:Mem S h0 h (xs++(b,e,l)::ys))(ht:Tch [b] h h')(k:RowH h' b e l'):Mem S h0 h' (xs++(b,e,l')::ys):=by
 have hap:=M.apart;have hle:=ht.1;simp only[List.map_append,List.map_cons] at hap
 have hne:∀x∈xs++ys,x.1≠b:=by
  intro x hx hxb;rw[List.nodup_append] at hap;obtain⟨_,h2,h3⟩:=hap;rw[List.nodup_cons] at h2
  rcases List.mem_append.1 hx with hx|hx
  ·exact h3 x.1 (List.mem_map_of_mem hx) b (by simp) hxb
  ·exact h2.1 (by rw[←hxb];exact List.mem_map_of_mem hx)
 refine⟨fun x hx=>?_,by simpa only[List.map_append,List.map_cons] using hap,M.tch.trans' ht fun i hi=>?_⟩
 ·have hx' : x ∈ xs ++ ys ∨ x = (b, e, l') := by
   rcases List.mem_append.1 hx with hx|hx
   ·exact .inl (List.mem_append_left _ hx)
   ·rcases List.mem_cons.1 hx with hx | hx
    ·exact .inr hx
    ·exact .inl (List.mem_append_right _ hx)
  rcases hx' with hx'|rfl
  ·obtain ⟨h1, h2, h3⟩ := M.row x (by
    rcases List.mem_append.1 hx' with hx|hx
    ·exact List.mem_append_left _ hx
    ·exact List.mem_append_right _ (List.mem_cons_of_mem _ hx))
   exact⟨h1.tch ht h2 (by simpa using hne x hx'),by omega,h3⟩
  ·have := M.at
   exact⟨k,by show b<h'.next;omega,this.2.2⟩
 ·simp only [List.mem_cons, List.not_mem_nil, or_false] at hi
  subst hi;exact M.at.2.2
theorem Mem.keep(M:Mem S h0 h rs)(ht:Tch [] h h'):Mem S h0 h' rs:=by
 have hle:=ht.1;refine⟨fun x hx=>?_,M.apart,M.tch.trans (ht.mono (by simp))⟩;obtain⟨h1,h2,h3⟩:=M.row x hx;exact⟨h1.tch ht h2 (by simp),by omega,h3⟩
theorem Mem.new(M:Mem S h0 h rs)(ht:Tch [] h h')(k:RowH h' b e l)(hb:h.next≤b)(hb2:b<h'.next):Mem S h0 h' ((b,e,l)::rs):=by
 have M':=M.keep ht;have hle:=M.tch.1;refine⟨fun x hx=>?_,?_,M'.tch⟩
 ·rcases List.mem_cons.1 hx with rfl | hx
  ·exact⟨k,hb2,.inr (by show h0.next≤b;omega)⟩
  ·exact M'.row x hx
 ·rw [List.map_cons, List.nodup_cons]
  refine⟨fun hm=>?_,M.apart⟩;obtain⟨x,hx,hxb⟩:=List.mem_map.1 hm;have:=(M.row x hx).2.1;omega
theorem Mem.newH(M:Mem S h0 h rs)(e:TypeId)(l:List AV):Mem S h0 (newH h e l) ((h.next,e,l)::rs):=M.new (Tch.newH _ _ _ _) (RowH.new _ _ _) (Nat.le_refl _) (Nat.lt_succ_self _)
theorem Mem.ex(M:Mem S h0 h rs):h.ex=h0.ex:=M.tch.2.1
theorem y11(M:Mem S h0 h rs)(hk:∀h',Mem S h0 h' ((h.next,e,l)::rs)→Wp (K h') Q):Wp (Abs.lett (Abs.newH h e l) K) Q:=hk _ (M.newH e l)
theorem y17{K:AV→AHeap→R}(M:Mem S h0 h rs)(h1:l.all AV.one=true)(hk:∀h',Mem S h0 h' ((h.next,e,l)::rs)→Wp (K (.ptr h.next 0) h') Q):Wp (Abs.outK (opBox h e (some (.agg l))) K) Q:=
 Wp.outK (box_agg h1) (hk _ (M.newH e l))
theorem y31{K:AV→AHeap→R}{w:OutT}{sz:Nat}(M:Mem S h0 h rs)(eb:w=outNewS h e l n sz)(h1:l.all AV.one=true)(hex:memB e h0.ex=false)(hk:∀h',Mem S h0 h' ((h.next,e,l)::rs)→Wp (K (.sl h.next 0 n sz) h') Q):Wp (Abs.outK w K) Q:=by
 refine Wp.outK (v:=.sl h.next 0 n sz) (h1:=Abs.newH h e l) ?_ (hk _ (M.newH e l));rw[eb];unfold outNewS;rw[if_pos ⟨h1,by rw[M.ex];exact hex⟩];rfl
theorem and_t{a c:Bool}(h1:a=true)(h2:c=true):(a&&c)=true:=by rw[h1,h2];rfl
theorem Mem.at0(M:Mem S h0 h ((b,e,l)::ys)):RowH h b e l∧b<h.next∧(b∈S∨h0.next≤b):=Mem.at (xs:=[]) M
theorem y26{K:AV→R}(M:Mem S h0 h ((b,e,l)::ys))(ho:l[o]? =some v)(hk:Wp (K v) Q):Wp (Abs.obind (ldCell h (.ptr b o)) K) Q:=Wp.obind (y5 (Mem.at (xs:=[]) M).1 ho) hk
theorem y32{K:List AV→R}(M:Mem S h0 h ((b,e,l)::ys))(hn:l.length=n)(hk:Wp (K l) Q):Wp (Abs.obind (ldRow h n (.ptr b 0)) K) Q:=Wp.obind (RowH.ldAll (Mem.at (xs:=[]) M).1 hn) hk
theorem y1a(M:Mem S h0 h ((b,e,l)::ys))(hn:vs.length=n)(hl:l.length=n)(h1:vs.all AV.one=true)(hk:∀h',Mem S h0 h' ((b,e,vs)::ys)→Wp (K h') Q):Wp (Abs.obind (stRow h n vs (.ptr b 0)) K) Q:=
 Wp.stAll (Mem.at (xs:=[]) M).1 hn hl h1 fun h' k' t' _=>hk h' (Mem.upd (xs:=[]) M t' k')
theorem Wp.ms0(M:Mem S h0 h ((b,e,l)::ys))(ho:o<l.length)(h1:v.one=true)(hk:∀h',Mem S h0 h' ((b,e,l.set o v)::ys)→Wp (K h') Q):Wp (Abs.obind (stRow h 1 [v] (.ptr b o)) K) Q:=
 Wp.st1 (Mem.at (xs:=[]) M).1 ho h1 fun h' k' t' _=>hk h' (Mem.upd (xs:=[]) M t' k')
theorem Mem.at1(M:Mem S h0 h (x0::(b,e,l)::ys)):RowH h b e l∧b<h.next∧(b∈S∨h0.next≤b):=Mem.at (xs:=[x0]) M
end
end
noncomputable section
open Go.RowKit
def GrowT(e:TypeId)(sz:Nat)(rows:List (List AV))(v:AV)(T:List RowT):Prop:=
 (∀r∈rows,r.length=sz∧r.all AV.one=true)∧((rows=[]∧v=.nsl∧T=[])∨(rows≠[]∧∃c,v=.sl c 0 rows.length sz∧T=[(c,e,rows.flatten)]))
section
variable {P:Program}{S:List Nat}{h0 h h':AHeap}{xs ys rs T:List RowT}{b o n sz B:Nat}{e t u:TypeId}{l l' vs r:List AV}{v x:AV}{rows:List (List AV)}{Q:ARes→AHeap→Prop}
theorem GrowT.one(g:GrowT e sz rows v T):v.one=true∧AV.cells v=[v]:=by
 rcases g.2 with⟨rfl,rfl,_⟩|⟨_,c,rfl,_⟩<;>exact⟨rfl,rfl⟩
theorem Mem.frame(M:Mem S h0 h (xs++rs))(M':Mem (xs.map (·.1)) h h' ys):Mem S h0 h' (ys++rs):=by
 have hap:=M.apart;rw[List.map_append,List.nodup_append] at hap;obtain⟨a1,a2,a3⟩:=hap
 have hxs:∀b∈xs.map (·.1),b∈S∨h0.next≤b:=by
  intro b hb;obtain⟨x,hx,rfl⟩:=List.mem_map.1 hb;exact(M.row x (List.mem_append_left _ hx)).2.2
 have hle:=M.tch.1;have hle':=M'.tch.1;refine⟨fun x hx=>?_,?_,M.tch.trans' M'.tch hxs⟩
 ·rcases List.mem_append.1 hx with hx | hx
  ·obtain ⟨h1, h2, h3⟩ := M'.row x hx
   exact⟨h1,h2,h3.elim (fun h=>hxs _ h) (fun h=>.inr (by omega))⟩
  ·obtain ⟨h1, h2, h3⟩ := M.row x (List.mem_append_right _ hx)
   exact⟨h1.tch M'.tch h2 (fun hm=>a3 x.1 hm x.1 (List.mem_map_of_mem hx) rfl),by omega,h3⟩
 ·rw [List.map_append, List.nodup_append]
  refine⟨M'.apart,a2,fun a ha b hb hab=>?_⟩;subst hab;obtain⟨x,hx,rfl⟩:=List.mem_map.1 ha
  rcases(M'.row x hx).2.2 with h|h
  ·exact a3 _ h _ hb rfl
  ·obtain ⟨y, hy, hyx⟩ := List.mem_map.1 hb
   have:=(M.row y (List.mem_append_right _ hy)).2.1;omega
end
end
end Go.Proofs.Ytfcedccphhmdgaa.Abs
