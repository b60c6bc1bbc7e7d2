/- What matchCopies_proved stands on, part 7 of 10. -/
import Derived.Test.YtpdepoeanhibiaaDoorCc6
namespace Go.Proofs.YtpdepoeanhibiaaDoor
open Go.RowKit Abs
noncomputable def ze4(call:zd)(t1:z11)(h:AHeap)(v14:AV)(k20:AHeap→R)(self:Int→AHeap→R)(t21:Int)(h_28:AHeap):R:=lett (decide (t21<(z15b t1))) fun (t22:Bool)=>ifB t22 (obind (idxS t1 t21) fun t28=>callN (call 14 [v14,.int .u8 t28,.int .i64 t21] h_28) fun r30 h_37=>obind (z12b 0 r30) fun v31=>obind (z75 v31) fun t31=>obind (z12b 1 r30) fun v32=>obind (z23 v32) fun t32=>lett (newH h_37 26 [.int .i64 0,.int .i64 0,.int .i64 0]) fun h_43=>obind (z17 h_43 3 t31 (z7 h_37)) fun h_45=>ifB t32 (obind (z18 h_45 3 (z7 h_37)) fun t34=>obind (z17 h_45 3 t34 (z7 h)) fun h_50=>obind (z18 h_50 3 (z7 h)) fun w4_53=>some (.ret (.tup [.agg w4_53,.bool true]),h_50)) (lett (IntKind.i64.wrap (t21+1)) fun (t35:Int)=>self t35 h_45)) (k20 h_28)
noncomputable def zf8(call:zd)(t1:z11)(h:AHeap)(v14:AV)(k20:AHeap→R):Nat→Int→AHeap→R:=z103 (fun _ _=>none) (ze4 call t1 h v14 k20)
theorem z142(call:zd)(t1:z11)(h:AHeap)(v14:AV)(k20:AHeap→R)(m:Nat):zf8 call t1 h v14 k20 (m+1)=ze4 call t1 h v14 k20 (zf8 call t1 h v14 k20 m):=rfl
noncomputable def z129(call:zd)(n:Nat)(t0:AV)(t1:z11)(h:AHeap):R:=lett (newH h 26 [.int .i64 0,.int .i64 0,.int .i64 0]) fun h_2=>callN (call 18 [t0] h_2) fun r13 h_5=>obind (z12b 0 r13) fun v14=>obind (z12b 1 r13) fun v15=>obind (avInt .i64 v15) fun t15=>lett ((t15:Int) != 0) fun (t17:Bool)=>ifB t17 (obind (z17 h_5 3 ([.int .i64 0,.int .i64 0,.int .i64 0]:List AV) (z7 h)) fun h_14=>obind (z18 h_14 3 (z7 h)) fun w4=>some (.ret (.tup [.agg w4,.bool false]),h_14)) (lett (fun (h_21:AHeap)=>obind (z17 h_21 3 ([.int .i64 0,.int .i64 0,.int .i64 0]:List AV) (z7 h)) fun h_23=>obind (z18 h_23 3 (z7 h)) fun w4_26=>some (.ret (.tup [.agg w4_26,.bool false]),h_23)) fun k20=>zf8 call t1 h v14 k20 n 0 h_5)
set_option maxHeartbeats 4000000 in
set_option maxRecDepth 20000 in
theorem z2f7{call:zd}(hc:SaysAll Tryd.prog call){n:Nat}{t0:AV}{t1:z11}{h:AHeap}{rR:ARes}{hR:AHeap}(hF:z129 call n t0 t1 h=some (rR,hR)):Says Tryd.prog 11 [t0,z19 t1] h rR hR:=by
 unfold z129 at hF;refine sO Tryd.func11 fun w0 m0=>?_;refine wW [(0,t0),(1,z19 t1)] ?_;refine oG fun n1=>W.r ?_;refine oN 4 hF fun h_2 hF=>?_;refine oA 5 (.bool false) ?_;refine oV [(0,t0),(1,z19 t1),(4,(z7 h))] (n1 ?_);refine oG fun n4=>W.r ?_;refine oA 12 t0 ?_;refine oC hc (some 13) hF fun r13 h_5 hF=>?_;refine oA 11 r13 ?_;refine oE 14 hF fun v14 hF=>?_;refine oEi 15 hF fun t15 hF=>?_;refine oA 6 v14 ?_;refine oA 7 (.int .i64 t15) ?_;refine oV [(1,z19 t1),(4,(z7 h)),(6,v14),(7,.int .i64 t15)] (n4 ?_);refine oH fun n10 q10=>?_;refine oG fun n11=>W.r ?_;refine oA 16 (.int .i64 t15) ?_;refine oB 17 hF fun t17 hF=>?_;refine oV [(1,z19 t1),(4,(z7 h)),(6,v14),(17,.bool t17)] (n11 ?_)
 cases t17 with
 |true=>
  refine oT hF fun hF=>?_;refine oG fun n13=>W.r ?_;refine oA 18 (.agg ([.int .i64 0,.int .i64 0,.int .i64 0]:List AV)) ?_;refine oW 26 (.agg ([.int .i64 0,.int .i64 0,.int .i64 0]:List AV)) hF fun h_14 hF=>?_;refine oA 5 (.bool false) ?_;refine oV [(4,(z7 h)),(5,.bool false)] (n13 (oY (q10 ?_)));obtain⟨w4,e16,hF⟩:=z4 hF;exact lZ hF [.cell 4 26,.tmp 5] [.agg w4,.bool false] (rY e16 (rT zf))
 |false=>
  refine oU hF fun hF=>?_;refine oZ (n10 ?_);refine W.s (fun K17 n17 e17 q17 p17=>?_);refine oG fun n18=>W.r ?_;refine oA 19 (z19 t1) ?_;refine oA 20 (.int .i64 (z15b t1)) ?_;refine oA 21 (.int .i64 0) ?_;refine oV [(1,z19 t1),(4,(z7 h)),(6,v14),(20,.int .i64 (z15b t1)),(21,.int .i64 0)] (n18 ?_);obtain⟨k20,e20,hF⟩:=zc hF
  have J20:∀(h_21:AHeap),k20 h_21=some (rR,hR)→Go w0 m0 (Func.ntmps Tryd.f11) (K17 .normal) [(4,(z7 h))] [] h_21:=by
   intro h_21 hF;rw[e20] at hF;refine n17 ?_;refine oG fun n22=>W.r ?_;refine oA 36 (.agg ([.int .i64 0,.int .i64 0,.int .i64 0]:List AV)) ?_;refine oW 26 (.agg ([.int .i64 0,.int .i64 0,.int .i64 0]:List AV)) hF fun h_23 hF=>?_;refine oA 5 (.bool false) ?_;refine oV [(4,(z7 h)),(5,.bool false)] (n22 (oY ?_));obtain⟨w4_26,e25,hF⟩:=z4 hF;exact lZ hF [.cell 4 26,.tmp 5] [.agg w4_26,.bool false] (rY e25 (rT zf))
  refine yd (by kernel_rfl) (fun K19 n19 s19 o19 q19 p19=>?_);refine y17 (by kernel_rfl) (fun I27 K27 b27 n27 e27 q27 p27=>?_)
  have L27:∀(m:Nat) (t21:Int) (h_28:AHeap),zf8 call t1 h v14 k20 m t21 h_28=some (rR,hR)→Go w0 m0 (Func.ntmps Tryd.f11) I27 [(1,z19 t1),(4,(z7 h)),(6,v14),(20,.int .i64 (z15b t1)),(21,.int .i64 t21)] [] h_28:=by
   intro m
   induction m with
   |zero=>intro t21 h_28 hF;cases hF
   |succ m ih27=>
    intro t21 h_28 hF;rw[z142] at hF;unfold ze4 at hF;refine b27 ?_;refine oG fun n29=>W.r ?_;refine oB 22 hF fun t22 hF=>?_;refine oV [(1,z19 t1),(4,(z7 h)),(6,v14),(20,.int .i64 (z15b t1)),(21,.int .i64 t21),(22,.bool t22)] (n29 ?_);refine W.s (fun K31 n31 e31 q31 p31=>?_)
    cases t22 with
    |true=>
     refine oT hF fun hF=>?_;refine oZ (n31 ?_);refine oH fun n32 q32=>?_;refine yd (by kernel_rfl) (fun K33 n33 s33 o33 q33 p33=>?_);refine oG fun n34=>W.r ?_;refine oA 23 (.int .i64 t21) ?_;refine oA 8 (.int .i64 t21) ?_;refine oV [(1,z19 t1),(4,(z7 h)),(6,v14),(8,.int .i64 t21),(20,.int .i64 (z15b t1)),(21,.int .i64 t21)] (n34 ?_);refine oG fun n35=>W.r ?_;refine oA 25 v14 ?_;refine oA 26 (z19 t1) ?_;refine oA 27 (.int .i64 t21) ?_;refine oX 28 9 .i64 hF fun t28 hF=>?_;refine oA 29 (.int .i64 t21) ?_;refine oC hc (some 30) hF fun r30 h_37 hF=>?_;refine oA 24 r30 ?_;refine oEa 31 hF fun t31 hF=>?_;refine oEb 32 hF fun t32 hF=>?_;refine oN 9 hF fun h_43 hF=>?_;refine oW 26 (.agg t31) hF fun h_45 hF=>?_;refine oA 10 (.bool t32) ?_;refine oV [(1,z19 t1),(4,(z7 h)),(6,v14),(9,(z7 h_37)),(10,.bool t32),(20,.int .i64 (z15b t1)),(21,.int .i64 t21)] (n35 ?_);refine oG fun n47=>W.r ?_;refine oA 33 (.bool t32) ?_;refine oV [(1,z19 t1),(4,(z7 h)),(6,v14),(9,(z7 h_37)),(20,.int .i64 (z15b t1)),(21,.int .i64 t21),(33,.bool t32)] (n47 ?_)
     cases t32 with
     |true=>
      refine oT hF fun hF=>?_;refine oG fun n48=>W.r ?_;refine oR 34 26 hF fun t34 hF=>?_;refine oW 26 (.agg t34) hF fun h_50 hF=>?_;refine oA 5 (.bool true) ?_;refine oV [(4,(z7 h)),(5,.bool true)] (n48 (oY (q33 (q32 (q27 (q19 (q17 ?_)))))));obtain⟨w4_53,e52,hF⟩:=z4 hF;exact lZ hF [.cell 4 26,.tmp 5] [.agg w4_53,.bool true] (rY e52 (rT zf))
     |false=>
      refine oU hF fun hF=>?_;refine oZ (n33 (n32 (W.r ?_)));refine oI 35 .i64 hF fun t35 hF=>?_;refine oA 21 (.int .i64 t35) ?_;refine oV [(1,z19 t1),(4,(z7 h)),(6,v14),(20,.int .i64 (z15b t1)),(21,.int .i64 t35)] (n27 ?_);exact gW _ (ih27 _ _ hF)
    |false=>
     refine oU hF fun hF=>?_;refine W.exit (by kernel_rfl) ?_;refine e31 (e27 ?_);refine s19 (by kernel_rfl) ?_;exact gW _ (J20 _ hF)
  exact gW _ (L27 _ _ _ hF)
noncomputable def z9e(call:zd)(t0:AV)(t18:Int)(k15:AV→AHeap→R)(self:AV→Int→AHeap→R)(t4_19:AV)(t19:Int)(h_20:AHeap):R:=lett (decide (t19<t18)) fun (t20:Bool)=>ifB t20 (obind (z1a6 2 t0 t19) fun t21=>obind (z18 h_20 2 t21) fun t22=>lett (newH h_20 41 [.int .i64 0,.str 0 0]) fun h_29=>obind (z17 h_29 2 t22 (z7 h_20)) fun h_31=>obind (z18 h_31 2 (z7 h_20)) fun t24=>callN (call 23 [.agg t24] h_31) fun r25 h_35=>obind (z12b 0 r25) fun v26=>obind (z12b 1 r25) fun v27=>obind (avInt .i64 v27) fun t27=>lett ((t27:Int) != 0) fun (t29:Bool)=>lett (fun (t33:Bool) (h_43:AHeap)=>ifB t33 (some (.ret (.tup [AV.nsl,.int .i64 2]),h_43)) (obind (z252 Tryd.prog 55 [(0,v26)]) fun t36=>outK (zdb Tryd.prog h_43 46 1 [(0,.agg t36)]) fun v37 h_48=>outK (z4b Tryd.prog h_48 46 46 t4_19 v37) fun v38 h_50=>lett (IntKind.i64.wrap (t19+1)) fun (t39:Int)=>self v38 t39 h_50)) fun j33=>ifB t29 (j33 true h_35) (obind (z18 h_35 2 (z7 h_20)) fun t31=>callN (call 24 [.agg t31] h_35) fun r32 h_54=>obind (z23 r32) fun t32=>j33 t32 h_54)) (k15 t4_19 h_20)
noncomputable def zb7(call:zd)(t0:AV)(t18:Int)(k15:AV→AHeap→R):Nat→AV→Int→AHeap→R:=z103 (fun _ _ _=>none) (z9e call t0 t18 k15)
theorem zed(call:zd)(t0:AV)(t18:Int)(k15:AV→AHeap→R)(m:Nat):zb7 call t0 t18 k15 (m+1)=z9e call t0 t18 k15 (zb7 call t0 t18 k15 m):=rfl
noncomputable def ze3(call:zd)(n:Nat)(t0:AV)(h:AHeap):R:=obind (z153 t0) fun t10=>lett ((t10:Int) == 0) fun (t11:Bool)=>lett (fun (t16:Bool) (h_6:AHeap)=>ifB t16 (some (.ret (.tup [AV.nsl,.int .i64 2]),h_6)) (obind (z153 t0) fun t18=>lett (fun (t4:AV) (h_16:AHeap)=>some (.ret (.tup [t4,.int .i64 0]),h_16)) fun k15=>zb7 call t0 t18 k15 n AV.nsl 0 h_6)) fun j16=>ifB t11 (j16 true h) (obind (z153 t0) fun t14=>lett (decide (t14>8)) fun (t15:Bool)=>j16 t15 h)
set_option maxHeartbeats 4000000 in
set_option maxRecDepth 20000 in
theorem z2ce{call:zd}(hc:SaysAll Tryd.prog call){n:Nat}{t0:AV}{h:AHeap}{rR:ARes}{hR:AHeap}(hF:ze3 call n t0 h=some (rR,hR)):Says Tryd.prog 18 [t0] h rR hR:=by
 unfold ze3 at hF;refine sO Tryd.func18 fun w0 m0=>?_;refine wW [(0,t0)] ?_;refine oG fun n1=>W.r ?_;refine oA 2 AV.nsl ?_;refine oA 3 (.int .i64 0) ?_;refine oV [(0,t0)] (n1 ?_);refine oH fun n2 q2=>?_;refine W.s (fun K3 n3 e3 q3 p3=>?_);refine W.r ?_;refine oA 9 t0 ?_;refine oM 10 22 41 hF fun t10 hF=>?_;refine oB 11 hF fun t11 hF=>?_;refine oA 12 (.bool t11) ?_;obtain⟨j16,e7,hF⟩:=zc hF
 have J8:∀(t16:Bool) (h_6:AHeap),j16 t16 h_6=some (rR,hR)→WL Tryd.prog w0 m0 (Func.ntmps Tryd.f18) (Code.ops (y6 (y6 (y3 (z4e Tryd.f18))))) 8 K3 [(0,t0),(16,.bool t16)] [] h_6:=by
  intro t16 h_6 hF;rw[e7] at hF;refine oV [(0,t0),(16,.bool t16)] (n3 ?_)
  cases t16 with
  |true=>
   refine oT hF fun hF=>?_;refine oG fun n9=>W.r ?_;refine oA 2 AV.nsl ?_;refine oA 3 (.int .i64 2) ?_;refine oV [(2,AV.nsl),(3,.int .i64 2)] (n9 (oY (q2 ?_)));exact lZ hF [.tmp 2,.tmp 3] [AV.nsl,.int .i64 2] (rT (rT zf))
  |false=>
   refine oU hF fun hF=>?_;refine oZ (n2 ?_);refine oG fun n10=>W.r ?_;refine oA 4 AV.nsl ?_;refine oV [(0,t0),(4,AV.nsl)] (n10 ?_);refine W.s (fun K11 n11 e11 q11 p11=>?_);refine oG fun n12=>W.r ?_;refine oA 17 t0 ?_;refine oM 18 22 41 hF fun t18 hF=>?_;refine oA 19 (.int .i64 0) ?_;refine oV [(4,AV.nsl),(17,t0),(18,.int .i64 t18),(19,.int .i64 0)] (n12 ?_);obtain⟨k15,e15,hF⟩:=zc hF
   have J15:∀(t4:AV) (h_16:AHeap),k15 t4 h_16=some (rR,hR)→Go w0 m0 (Func.ntmps Tryd.f18) (K11 .normal) [(4,t4)] [] h_16:=by
    intro t4 h_16 hF;rw[e15] at hF;refine n11 ?_;refine oG fun n17=>W.r ?_;refine oA 40 t4 ?_;refine oA 2 t4 ?_;refine oA 3 (.int .i64 0) ?_;refine oV [(2,t4),(3,.int .i64 0)] (n17 (oY ?_));exact lZ hF [.tmp 2,.tmp 3] [t4,.int .i64 0] (rT (rT zf))
   refine yd (by kernel_rfl) (fun K14 n14 s14 o14 q14 p14=>?_);refine y17 (by kernel_rfl) (fun I18 K18 b18 n18 e18 q18 p18=>?_)
   have L18:∀(m:Nat) (t4_19:AV) (t19:Int) (h_20:AHeap),zb7 call t0 t18 k15 m t4_19 t19 h_20=some (rR,hR)→Go w0 m0 (Func.ntmps Tryd.f18) I18 [(4,t4_19),(17,t0),(18,.int .i64 t18),(19,.int .i64 t19)] [] h_20:=by
    intro m
    induction m with
    |zero=>intro t4_19 t19 h_20 hF;cases hF
    |succ m ih18=>
     intro t4_19 t19 h_20 hF;rw[zed] at hF;unfold z9e at hF;refine b18 ?_;refine oG fun n21=>W.r ?_;refine oB 20 hF fun t20 hF=>?_;refine oV [(4,t4_19),(17,t0),(18,.int .i64 t18),(19,.int .i64 t19),(20,.bool t20)] (n21 ?_);refine W.s (fun K23 n23 e23 q23 p23=>?_)
     cases t20 with
     |true=>
      refine oT hF fun hF=>?_;refine oZ (n23 ?_);refine oH fun n24 q24=>?_;refine yd (by kernel_rfl) (fun K25 n25 s25 o25 q25 p25=>?_);refine oG fun n26=>W.r ?_;refine oP 21 22 41 .i64 hF fun t21 hF=>?_;refine oR 22 41 hF fun t22 hF=>?_;refine oN 6 hF fun h_29 hF=>?_;refine oW 41 (.agg t22) hF fun h_31 hF=>?_;refine oV [(4,t4_19),(6,(z7 h_20)),(17,t0),(18,.int .i64 t18),(19,.int .i64 t19)] (n26 ?_);refine oG fun n33=>W.r ?_;refine oR 24 41 hF fun t24 hF=>?_;refine oC hc (some 25) hF fun r25 h_35 hF=>?_;refine oA 23 r25 ?_;refine oE 26 hF fun v26 hF=>?_;refine oEi 27 hF fun t27 hF=>?_;refine oA 7 v26 ?_;refine oA 8 (.int .i64 t27) ?_;refine oV [(4,t4_19),(6,(z7 h_20)),(7,v26),(8,.int .i64 t27),(17,t0),(18,.int .i64 t18),(19,.int .i64 t19)] (n33 ?_);refine oH fun n40 q40=>?_;refine W.s (fun K41 n41 e41 q41 p41=>?_);refine W.r ?_;refine oA 28 (.int .i64 t27) ?_;refine oB 29 hF fun t29 hF=>?_;refine oA 30 (.bool t29) ?_;obtain⟨j33,e44,hF⟩:=zc hF
      have J45:∀(t33:Bool) (h_43:AHeap),j33 t33 h_43=some (rR,hR)→WL Tryd.prog w0 m0 (Func.ntmps Tryd.f18) (Code.ops (y6 (y6 (y3 (y3 (y6 (y6 (y3 (y3 (y6 (y6 (y3 (y6 (y3 (y3 (y3 (z4e Tryd.f18))))))))))))))))) 6 K41 [(4,t4_19),(7,v26),(17,t0),(18,.int .i64 t18),(19,.int .i64 t19),(33,.bool t33)] [] h_43:=by
       intro t33 h_43 hF;rw[e44] at hF;refine oV [(4,t4_19),(7,v26),(17,t0),(18,.int .i64 t18),(19,.int .i64 t19),(33,.bool t33)] (n41 ?_)
       cases t33 with
       |true=>
        refine oT hF fun hF=>?_;refine oG fun n46=>W.r ?_;refine oA 2 AV.nsl ?_;refine oA 3 (.int .i64 2) ?_;refine oV [(2,AV.nsl),(3,.int .i64 2)] (n46 (oY (q40 (q25 (q24 (q18 (q14 (q11 ?_))))))));exact lZ hF [.tmp 2,.tmp 3] [AV.nsl,.int .i64 2] (rT (rT zf))
       |false=>
        refine oU hF fun hF=>?_;refine oZ (n40 (W.r ?_));refine oA 34 t4_19 ?_;refine oA 35 v26 ?_;obtain⟨t36,e47,hF⟩:=z4 hF;refine WL.val (d:=(some 36)) (v:=.agg t36) (h':=h_43) (by kernel_rfl) (by kernel_rfl) (z1b7 (by kernel_rfl) e47) ?_;refine oK 37 hF fun v37 h_48 hF=>?_;refine oK 38 hF fun v38 h_50 hF=>?_;refine oA 4 v38 ?_;refine oV [(4,v38),(17,t0),(18,.int .i64 t18),(19,.int .i64 t19)] (n25 (n24 (W.r ?_)));refine oI 39 .i64 hF fun t39 hF=>?_;refine oA 19 (.int .i64 t39) ?_;refine oV [(4,v38),(17,t0),(18,.int .i64 t18),(19,.int .i64 t39)] (n18 ?_);exact gW _ (ih18 _ _ _ hF)
      cases t29 with
      |true=>
       replace hF:=zae hF
       refine WL.o (some 31) ?_;refine WL.o (some 32) ?_;refine oA 33 (.bool true) ?_;exact lW _ (J45 _ _ hF)
      |false=>
       replace hF:=zaf hF
       refine oR 31 41 hF fun t31 hF=>?_;refine oCb hc 32 hF fun t32 h_54 hF=>?_;refine oA 33 (.bool t32) ?_;exact lW _ (J45 _ _ hF)
     |false=>
      refine oU hF fun hF=>?_;refine W.exit (by kernel_rfl) ?_;refine e23 (e18 ?_);refine s14 (by kernel_rfl) ?_;exact gW _ (J15 _ _ hF)
   exact gW _ (L18 _ _ _ _ hF)
 cases t11 with
 |true=>
  replace hF:=zae hF
  refine WL.o (some 13) ?_;refine WL.o (some 14) ?_;refine WL.o (some 15) ?_;refine oA 16 (.bool true) ?_;exact lW _ (J8 _ _ hF)
 |false=>
  replace hF:=zaf hF
  refine oA 13 t0 ?_;refine oM 14 22 41 hF fun t14 hF=>?_;refine oB 15 hF fun t15 hF=>?_;refine oA 16 (.bool t15) ?_;exact lW _ (J8 _ _ hF)
noncomputable def zf7(call:zd)(t0:AV)(t1:Int)(t2:Int)(h:AHeap)(t12:Int)(k8:AHeap→R)(self:Int→AHeap→R)(t13:Int)(h_15:AHeap):R:=lett (decide (t13<t12)) fun (t14:Bool)=>ifB t14 (obind (z1a6 2 t0 t13) fun t19=>callN (call 20 [t19,.int .u8 t1,.int .i64 t2] h_15) fun r22 h_24=>obind (z12b 0 r22) fun v23=>obind (avInt .i64 v23) fun t23=>obind (z12b 1 r22) fun v24=>obind (z23 v24) fun t24=>ifB t24 (lett (IntKind.i64.wrap (t2+1)) fun (t29:Int)=>obind (z17 h_24 3 ([.int .i64 t13,.int .i64 t23,.int .i64 t29]:List AV) (z7 h)) fun h_33=>obind (z18 h_33 3 (z7 h)) fun w6_36=>some (.ret (.tup [.agg w6_36,.bool true]),h_33)) (lett (IntKind.i64.wrap (t13+1)) fun (t31:Int)=>self t31 h_24)) (k8 h_15)
noncomputable def z11a(call:zd)(t0:AV)(t1:Int)(t2:Int)(h:AHeap)(t12:Int)(k8:AHeap→R):Nat→Int→AHeap→R:=z103 (fun _ _=>none) (zf7 call t0 t1 t2 h t12 k8)
theorem z168(call:zd)(t0:AV)(t1:Int)(t2:Int)(h:AHeap)(t12:Int)(k8:AHeap→R)(m:Nat):z11a call t0 t1 t2 h t12 k8 (m+1)=zf7 call t0 t1 t2 h t12 k8 (z11a call t0 t1 t2 h t12 k8 m):=rfl
noncomputable def z159(call:zd)(n:Nat)(t0:AV)(t1:Int)(t2:Int)(h:AHeap):R:=lett (newH h 26 [.int .i64 0,.int .i64 0,.int .i64 0]) fun h_2=>obind (z153 t0) fun t12=>lett (fun (h_9:AHeap)=>obind (z17 h_9 3 ([.int .i64 0,.int .i64 0,.int .i64 0]:List AV) (z7 h)) fun h_11=>obind (z18 h_11 3 (z7 h)) fun w6=>some (.ret (.tup [.agg w6,.bool false]),h_11)) fun k8=>z11a call t0 t1 t2 h t12 k8 n 0 h_2
set_option maxHeartbeats 4000000 in
set_option maxRecDepth 20000 in
theorem z34d{call:zd}(hc:SaysAll Tryd.prog call){n:Nat}{t0:AV}{t1:Int}{t2:Int}{h:AHeap}{rR:ARes}{hR:AHeap}(hF:z159 call n t0 t1 t2 h=some (rR,hR)):Says Tryd.prog 14 [t0,.int .u8 t1,.int .i64 t2] h rR hR:=by
 unfold z159 at hF;refine sO Tryd.func14 fun w0 m0=>?_;refine wW [(0,t0),(1,.int .u8 t1),(2,.int .i64 t2)] ?_;refine oG fun n1=>W.r ?_;refine oN 6 hF fun h_2 hF=>?_;refine oA 7 (.bool false) ?_;refine oV [(0,t0),(1,.int .u8 t1),(2,.int .i64 t2),(6,(z7 h))] (n1 ?_);refine W.s (fun K4 n4 e4 q4 p4=>?_);refine oG fun n5=>W.r ?_;refine oA 11 t0 ?_;refine oM 12 46 55 hF fun t12 hF=>?_;refine oA 13 (.int .i64 0) ?_;refine oV [(0,t0),(1,.int .u8 t1),(2,.int .i64 t2),(6,(z7 h)),(12,.int .i64 t12),(13,.int .i64 0)] (n5 ?_);obtain⟨k8,e8,hF⟩:=zc hF
 have J8:∀(h_9:AHeap),k8 h_9=some (rR,hR)→Go w0 m0 (Func.ntmps Tryd.f14) (K4 .normal) [(6,(z7 h))] [] h_9:=by
  intro h_9 hF;rw[e8] at hF;refine n4 ?_;refine oG fun n10=>W.r ?_;refine oA 32 (.agg ([.int .i64 0,.int .i64 0,.int .i64 0]:List AV)) ?_;refine oW 26 (.agg ([.int .i64 0,.int .i64 0,.int .i64 0]:List AV)) hF fun h_11 hF=>?_;refine oA 7 (.bool false) ?_;refine oV [(6,(z7 h)),(7,.bool false)] (n10 (oY ?_));obtain⟨w6,e13,hF⟩:=z4 hF;exact lZ hF [.cell 6 26,.tmp 7] [.agg w6,.bool false] (rY e13 (rT zf))
 refine yd (by kernel_rfl) (fun K7 n7 s7 o7 q7 p7=>?_);refine y17 (by kernel_rfl) (fun I14 K14 b14 n14 e14 q14 p14=>?_)
 have L14:∀(m:Nat) (t13:Int) (h_15:AHeap),z11a call t0 t1 t2 h t12 k8 m t13 h_15=some (rR,hR)→Go w0 m0 (Func.ntmps Tryd.f14) I14 [(0,t0),(1,.int .u8 t1),(2,.int .i64 t2),(6,(z7 h)),(12,.int .i64 t12),(13,.int .i64 t13)] [] h_15:=by
  intro m
  induction m with
  |zero=>intro t13 h_15 hF;cases hF
  |succ m ih14=>
   intro t13 h_15 hF;rw[z168] at hF;unfold zf7 at hF;refine b14 ?_;refine oG fun n16=>W.r ?_;refine oB 14 hF fun t14 hF=>?_;refine oV [(0,t0),(1,.int .u8 t1),(2,.int .i64 t2),(6,(z7 h)),(12,.int .i64 t12),(13,.int .i64 t13),(14,.bool t14)] (n16 ?_);refine W.s (fun K18 n18 e18 q18 p18=>?_)
   cases t14 with
   |true=>
    refine oT hF fun hF=>?_;refine oZ (n18 ?_);refine oH fun n19 q19=>?_;refine yd (by kernel_rfl) (fun K20 n20 s20 o20 q20 p20=>?_);refine oG fun n21=>W.r ?_;refine oA 15 (.int .i64 t13) ?_;refine oA 8 (.int .i64 t13) ?_;refine oV [(0,t0),(1,.int .u8 t1),(2,.int .i64 t2),(6,(z7 h)),(8,.int .i64 t13),(12,.int .i64 t12),(13,.int .i64 t13)] (n21 ?_);refine oG fun n22=>W.r ?_;refine oA 17 t0 ?_;refine oA 18 (.int .i64 t13) ?_;refine oP 19 46 55 .i64 hF fun t19 hF=>?_;refine oA 20 (.int .u8 t1) ?_;refine oA 21 (.int .i64 t2) ?_;refine oC hc (some 22) hF fun r22 h_24 hF=>?_;refine oA 16 r22 ?_;refine oEi 23 hF fun t23 hF=>?_;refine oEb 24 hF fun t24 hF=>?_;refine oA 9 (.int .i64 t23) ?_;refine oA 10 (.bool t24) ?_;refine oV [(0,t0),(1,.int .u8 t1),(2,.int .i64 t2),(6,(z7 h)),(8,.int .i64 t13),(9,.int .i64 t23),(10,.bool t24),(12,.int .i64 t12),(13,.int .i64 t13)] (n22 ?_);refine oG fun n30=>W.r ?_;refine oA 25 (.bool t24) ?_;refine oV [(0,t0),(1,.int .u8 t1),(2,.int .i64 t2),(6,(z7 h)),(8,.int .i64 t13),(9,.int .i64 t23),(12,.int .i64 t12),(13,.int .i64 t13),(25,.bool t24)] (n30 ?_)
    cases t24 with
    |true=>
     refine oT hF fun hF=>?_;refine oG fun n31=>W.r ?_;refine oA 26 (.int .i64 t13) ?_;refine oA 27 (.int .i64 t23) ?_;refine oA 28 (.int .i64 t2) ?_;refine oI 29 .i64 hF fun t29 hF=>?_;refine oA 30 (.agg ([.int .i64 t13,.int .i64 t23,.int .i64 t29]:List AV)) ?_;refine oW 26 (.agg ([.int .i64 t13,.int .i64 t23,.int .i64 t29]:List AV)) hF fun h_33 hF=>?_;refine oA 7 (.bool true) ?_;refine oV [(6,(z7 h)),(7,.bool true)] (n31 (oY (q20 (q19 (q14 (q7 (q4 ?_)))))));obtain⟨w6_36,e35,hF⟩:=z4 hF;exact lZ hF [.cell 6 26,.tmp 7] [.agg w6_36,.bool true] (rY e35 (rT zf))
    |false=>
     refine oU hF fun hF=>?_;refine oZ (n20 (n19 (W.r ?_)));refine oI 31 .i64 hF fun t31 hF=>?_;refine oA 13 (.int .i64 t31) ?_;refine oV [(0,t0),(1,.int .u8 t1),(2,.int .i64 t2),(6,(z7 h)),(12,.int .i64 t12),(13,.int .i64 t31)] (n14 ?_);exact gW _ (ih14 _ _ hF)
   |false=>
    refine oU hF fun hF=>?_;refine W.exit (by kernel_rfl) ?_;refine e18 (e14 ?_);refine s7 (by kernel_rfl) ?_;exact gW _ (J8 _ hF)
 exact gW _ (L14 _ _ _ hF)
noncomputable def za4(call:zd)(t0:AV)(t1:Int)(v30:AV)(t31:Int)(k30:Int→Bool→Int→AHeap→R)(self:Int→Bool→Int→Int→AHeap→R)(t6_37:Int)(t7_38:Bool)(t8_39:Int)(t32:Int)(h_40:AHeap):R:=lett (decide (t32<t31)) fun (t33:Bool)=>ifB t33 (lett (fun (t6_47:Int) (t7_48:Bool) (t8_49:Int) (h_50:AHeap)=>lett (IntKind.i64.wrap (t32+1)) fun (t61:Int)=>self t6_47 t7_48 t8_49 t61 h_50) fun k46=>obind (z1a6 2 v30 t32) fun t34=>obind (z18 h_40 2 t34) fun t35=>lett (newH h_40 67 [.nilp,.int .i64 0]) fun h_55=>obind (z17 h_55 2 t35 (z7 h_40)) fun h_57=>obind (z9 h_57 (AV.ptr (AHeap.next h_40) 0)) fun v37=>callN (call 26 [v37,.int .u8 t1] h_57) fun _ h_61=>obind (z9 h_61 (AV.ptr (AHeap.next h_40) 0)) fun v41=>callN (call 27 [v41] h_61) fun r42 h_66=>obind (z23 r42) fun t42=>ifB t42 (k46 t6_37 t7_38 t8_39 h_66) (obind (z9 h_66 (AV.ptr (AHeap.next h_40) 0)) fun v44=>callN (call 28 [v44] h_66) fun r45 h_72=>obind (z23 r45) fun t45=>lett (fun (t49:Bool) (h_75:AHeap)=>lett (fun (t6_79:Int) (t7_80:Bool) (h_81:AHeap)=>obind (z74 t0) fun t53=>obind (z4d 1 t53) fun t54=>obind (z9 h_81 t54) fun v55=>obind (z18 h_81 2 (z7 h_40)) fun t57=>obind (z1a6 2 v55 t8_39) fun t58=>obind (z17 h_81 2 t57 t58) fun h_88=>lett (IntKind.i64.wrap (t8_39+1)) fun (t60:Int)=>k46 t6_79 t7_80 t60 h_88) fun k78=>ifB t49 (obind (z9 h_75 (AV.ptr (AHeap.next h_40) 1)) fun v51=>obind (avInt .i64 v51) fun t51=>k78 t51 true h_75) (k78 t6_37 t7_38 h_75)) fun j49=>ifB t45 (lett (!t7_38) fun (t48:Bool)=>j49 t48 h_72) (j49 false h_72))) (k30 t6_37 t7_38 t8_39 h_40)
noncomputable def z8e(call:zd)(t0:AV)(t1:Int)(v30:AV)(t31:Int)(k30:Int→Bool→Int→AHeap→R):Nat→Int→Bool→Int→Int→AHeap→R:=z103 (fun _ _ _ _ _=>none) (za4 call t0 t1 v30 t31 k30)
theorem z101(call:zd)(t0:AV)(t1:Int)(v30:AV)(t31:Int)(k30:Int→Bool→Int→AHeap→R)(m:Nat):z8e call t0 t1 v30 t31 k30 (m+1)=za4 call t0 t1 v30 t31 k30 (z8e call t0 t1 v30 t31 k30 m):=rfl
noncomputable def zd0(call:zd)(n:Nat)(t0:AV)(t1:Int)(t2:Int)(h:AHeap):R:=
 obind (z74 t0) fun t13=>
 obind (z4d 1 t13) fun t14=>
 obind (z9 h t14) fun v15=>
 obind (z74 t0) fun t17=>
 obind (z4d 0 t17) fun t18=>
 obind (z9 h t18) fun v19=>
 callN (call 25 [v19] h) fun r20 h_9=>
 chk (true&&(zf2 Tryd.prog h_9 53 t14 v15&&true))<|
 obind (z252 Tryd.prog 67 [(0,r20),(1,.int .i64 t2)]) fun t22=>
 outK (zdb Tryd.prog h_9 53 1 [(0,.agg t22)]) fun v23 h_13=>
 chk (true&&(zf2 Tryd.prog h_13 53 t14 v15&&true))<|
 outK (z4b Tryd.prog h_13 53 53 v15 v23) fun v24 h_16=>
 obind (z74 t0) fun t25=>
 obind (z4d 1 t25) fun t26=>
 obind (z17 h_16 1 (AV.cells v24) t26) fun h_20=>
 obind (z74 t0) fun t28=>
 obind (z4d 1 t28) fun t29=>
 obind (z9 h_20 t29) fun v30=>
 obind (z153 v30) fun t31=>
 lett (fun (t6:Int) (t7:Bool) (t8:Int) (h_31:AHeap)=>
  callN (call 21 [t0,.int .i64 t8] h_31) fun _ h_33=>
  some (.ret (.tup [.int .i64 t6,.bool t7]),h_33)) fun k30=>
 z8e call t0 t1 v30 t31 k30 n 0 false 0 0 h_20
set_option maxHeartbeats 4000000 in
set_option maxRecDepth 20000 in
theorem z26f{call:zd}(hc:SaysAll Tryd.prog call){n:Nat}{t0:AV}{t1:Int}{t2:Int}{h:AHeap}{rR:ARes}{hR:AHeap}(hF:zd0 call n t0 t1 t2 h=some (rR,hR)):Says Tryd.prog 20 [t0,.int .u8 t1,.int .i64 t2] h rR hR:=by
 unfold zd0 at hF;refine sO Tryd.func20 fun w0 m0=>?_;refine wW [(0,t0),(1,.int .u8 t1),(2,.int .i64 t2)] ?_;refine oG fun n1=>W.r ?_;refine oA 6 (.int .i64 0) ?_;refine oA 7 (.bool false) ?_;refine oV [(0,t0),(1,.int .u8 t1),(2,.int .i64 t2),(6,.int .i64 0),(7,.bool false)] (n1 ?_);refine oG fun n2=>?_;refine y1e (by kernel_rfl) (hc.ok w0) (plan:=[0,1,2,3,4,5,6,7,8,10,9,11,12,13,14,15,16]) (by kernel_rfl) (by kernel_rfl) (by kernel_rfl) ?_;refine WD.a 0 (some 11) t0 h ?_;refine WD.a 0 (some 12) t0 h ?_;obtain⟨t13,e3,hF⟩:=z4 hF;refine WD.b 0 (some 13) t13 h (z2c (h:=h) e3) ?_;obtain⟨t14,e4,hF⟩:=z4 hF;refine WD.b 0 (some 14) t14 h (z1b (P:=Tryd.prog) (h:=h) (s:=55) (f:=1) (by kernel_rfl) e4) ?_;obtain⟨v15,e5,hF⟩:=z4 hF;refine WD.b 1 (some 15) v15 h (z15 (P:=Tryd.prog) (h:=h) (t:=53) (by kernel_rfl) e5) ?_;refine WD.a 0 (some 16) t0 h ?_;obtain⟨t17,e6,hF⟩:=z4 hF;refine WD.b 0 (some 17) t17 h (z2c (h:=h) e6) ?_;obtain⟨t18,e7,hF⟩:=z4 hF;refine WD.b 0 (some 18) t18 h (z1b (P:=Tryd.prog) (h:=h) (s:=55) (f:=0) (by kernel_rfl) e7) ?_;obtain⟨v19,e8,hF⟩:=z4 hF;refine WD.b 1 (some 19) v19 h (z15 (P:=Tryd.prog) (h:=h) (t:=52) (by kernel_rfl) e8) ?_;refine WD.a 0 (some 21) (.int .i64 t2) h ?_;obtain⟨r20,h_9,e10,hF⟩:=z40 hF;obtain⟨k11,hF⟩:=zef hF;refine WD.call (d:=(some 20)) (by kernel_rfl) (by kernel_rfl) (by kernel_rfl) e10 (k:=2) (by kernel_rfl) (fun _=>(Eq.trans (by kernel_rfl) k11)) (by decide) ?_;obtain⟨t22,e12,hF⟩:=z4 hF;refine WD.val (d:=(some 22)) (v:=.agg t22) (h':=h_9) (by kernel_rfl) (by kernel_rfl) (z1b7 (by kernel_rfl) e12) (k:=0) (by kernel_rfl) (fun e=>absurd e (by decide)) (by decide) ?_;obtain⟨v23,h_13,e14,hF⟩:=z27 hF;obtain⟨k15,hF⟩:=zef hF;refine WD.val (d:=(some 23)) (v:=v23) (h':=h_13) (by kernel_rfl) (by kernel_rfl) (Eq.trans (by kernel_rfl) e14) (k:=2) (by kernel_rfl) (fun _=>(Eq.trans (by kernel_rfl) k15)) (by decide) ?_;obtain⟨v24,h_16,e17,hF⟩:=z27 hF;refine WD.val (d:=(some 24)) (v:=v24) (h':=h_16) (by kernel_rfl) (by kernel_rfl) (Eq.trans (by kernel_rfl) e17) (k:=2) (by kernel_rfl) (fun _=>(by kernel_rfl)) (by decide) ?_;obtain⟨t25,e18,hF⟩:=z4 hF;refine WD.b 0 (some 25) t25 h_16 (z2c (h:=h_16) e18) ?_;obtain⟨t26,e19,hF⟩:=z4 hF;refine WD.b 0 (some 26) t26 h_16 (z1b (P:=Tryd.prog) (h:=h_16) (s:=55) (f:=1) (by kernel_rfl) e19) ?_;obtain⟨h_20,e21,hF⟩:=z4 hF;refine WD.eff (h':=h_20) (by kernel_rfl) (by kernel_rfl) (Eq.trans (by kernel_rfl) (z3d (P:=Tryd.prog) (h:=h_16) (t:=53) (v:=v24) (by kernel_rfl) (by kernel_rfl) e21)) (k:=2) (by kernel_rfl) (fun _=>(by kernel_rfl)) (by decide) ?_;refine WD.nil ?_;refine gW [(0,t0),(1,.int .u8 t1),(6,.int .i64 0),(7,.bool false)] (n2 ?_);refine oG fun n22=>W.r ?_;refine oA 8 (.int .i64 0) ?_;refine oV [(0,t0),(1,.int .u8 t1),(6,.int .i64 0),(7,.bool false),(8,.int .i64 0)] (n22 ?_);refine W.s (fun K23 n23 e23 q23 p23=>?_);refine oG fun n24=>W.r ?_;refine oA 27 t0 ?_;refine oC0 28 hF fun t28 hF=>?_;refine oF 29 55 1 hF fun t29 hF=>?_;refine oL 30 53 hF fun v30 hF=>?_;refine oM 31 53 67 hF fun t31 hF=>?_;refine oA 32 (.int .i64 0) ?_;refine oV [(0,t0),(1,.int .u8 t1),(6,.int .i64 0),(7,.bool false),(8,.int .i64 0),(30,v30),(31,.int .i64 t31),(32,.int .i64 0)] (n24 ?_);obtain⟨k30,e30,hF⟩:=zc hF
 have J30:∀(t6:Int) (t7:Bool) (t8:Int) (h_31:AHeap),k30 t6 t7 t8 h_31=some (rR,hR)→Go w0 m0 (Func.ntmps Tryd.f20) (K23 .normal) [(0,t0),(6,.int .i64 t6),(7,.bool t7),(8,.int .i64 t8)] [] h_31:=by
  intro t6 t7 t8 h_31 hF;rw[e30] at hF;refine n23 ?_;refine oG fun n32=>W.r ?_;refine oA 62 t0 ?_;refine oA 63 (.int .i64 t8) ?_;refine oC hc (some 64) hF fun r64 h_33 hF=>?_;refine oV [(6,.int .i64 t6),(7,.bool t7)] (n32 ?_);refine oG fun n35=>W.r ?_;refine oA 65 (.int .i64 t6) ?_;refine oA 66 (.bool t7) ?_;refine oA 6 (.int .i64 t6) ?_;refine oA 7 (.bool t7) ?_;refine oV [(6,.int .i64 t6),(7,.bool t7)] (n35 (oY ?_));exact lZ hF [.tmp 6,.tmp 7] [.int .i64 t6,.bool t7] (rT (rT zf))
 refine yd (by kernel_rfl) (fun K29 n29 s29 o29 q29 p29=>?_);refine y17 (by kernel_rfl) (fun I36 K36 b36 n36 e36 q36 p36=>?_)
 have L36:∀(m:Nat) (t6_37:Int) (t7_38:Bool) (t8_39:Int) (t32:Int) (h_40:AHeap),z8e call t0 t1 v30 t31 k30 m t6_37 t7_38 t8_39 t32 h_40=some (rR,hR)→Go w0 m0 (Func.ntmps Tryd.f20) I36 [(0,t0),(1,.int .u8 t1),(6,.int .i64 t6_37),(7,.bool t7_38),(8,.int .i64 t8_39),(30,v30),(31,.int .i64 t31),(32,.int .i64 t32)] [] h_40:=by
  intro m
  induction m with
  |zero=>intro t6_37 t7_38 t8_39 t32 h_40 hF;cases hF
  |succ m ih36=>
   intro t6_37 t7_38 t8_39 t32 h_40 hF;rw[z101] at hF;unfold za4 at hF;refine b36 ?_;refine oG fun n41=>W.r ?_;refine oB 33 hF fun t33 hF=>?_;refine oV [(0,t0),(1,.int .u8 t1),(6,.int .i64 t6_37),(7,.bool t7_38),(8,.int .i64 t8_39),(30,v30),(31,.int .i64 t31),(32,.int .i64 t32),(33,.bool t33)] (n41 ?_);refine W.s (fun K43 n43 e43 q43 p43=>?_)
   cases t33 with
   |true=>
    refine oT hF fun hF=>?_;refine oZ (n43 ?_);refine W.s (fun K44 n44 e44 q44 p44=>?_);obtain⟨k46,e46,hF⟩:=zc hF
    have J46:∀(t6_47:Int) (t7_48:Bool) (t8_49:Int) (h_50:AHeap),k46 t6_47 t7_48 t8_49 h_50=some (rR,hR)→Go w0 m0 (Func.ntmps Tryd.f20) (K44 .normal) [(0,t0),(1,.int .u8 t1),(6,.int .i64 t6_47),(7,.bool t7_48),(8,.int .i64 t8_49),(30,v30),(31,.int .i64 t31),(32,.int .i64 t32)] [] h_50:=by
     intro t6_47 t7_48 t8_49 h_50 hF;rw[e46] at hF;refine n44 (W.r ?_);refine oI 61 .i64 hF fun t61 hF=>?_;refine oA 32 (.int .i64 t61) ?_;refine oV [(0,t0),(1,.int .u8 t1),(6,.int .i64 t6_47),(7,.bool t7_48),(8,.int .i64 t8_49),(30,v30),(31,.int .i64 t31),(32,.int .i64 t61)] (n36 ?_);exact gW _ (ih36 _ _ _ _ _ hF)
    refine yd (by kernel_rfl) (fun K45 n45 s45 o45 q45 p45=>?_);refine oG fun n52=>W.r ?_;refine oP 34 53 67 .i64 hF fun t34 hF=>?_;refine oR 35 67 hF fun t35 hF=>?_;refine oN 10 hF fun h_55 hF=>?_;refine oW 67 (.agg t35) hF fun h_57 hF=>?_;refine oV [(0,t0),(1,.int .u8 t1),(6,.int .i64 t6_37),(7,.bool t7_38),(8,.int .i64 t8_39),(10,(z7 h_40)),(30,v30),(31,.int .i64 t31),(32,.int .i64 t32)] (n52 ?_);refine oG fun n59=>W.r ?_;refine oA 36 (AV.ptr (AHeap.next h_40) 0) ?_;refine oL 37 65 hF fun v37 hF=>?_;refine oA 38 (.int .u8 t1) ?_;refine oC hc (some 39) hF fun r39 h_61 hF=>?_;refine oV [(0,t0),(1,.int .u8 t1),(6,.int .i64 t6_37),(7,.bool t7_38),(8,.int .i64 t8_39),(10,(z7 h_40)),(30,v30),(31,.int .i64 t31),(32,.int .i64 t32)] (n59 ?_);refine W.s (fun K63 n63 e63 q63 p63=>?_);refine oG fun n64=>W.r ?_;refine oA 40 (AV.ptr (AHeap.next h_40) 0) ?_;refine oL 41 65 hF fun v41 hF=>?_;refine oCb hc 42 hF fun t42 h_66 hF=>?_;refine oV [(0,t0),(1,.int .u8 t1),(6,.int .i64 t6_37),(7,.bool t7_38),(8,.int .i64 t8_39),(10,(z7 h_40)),(30,v30),(31,.int .i64 t31),(32,.int .i64 t32),(42,.bool t42)] (n64 ?_)
    cases t42 with
    |true=>
     refine oT hF fun hF=>?_;refine W.exit (by kernel_rfl) ?_;refine e63 ?_;refine s45 (by kernel_rfl) ?_;exact gW _ (J46 _ _ _ _ hF)
    |false=>
     refine oU hF fun hF=>?_;refine oZ (n63 ?_);refine W.s (fun K69 n69 e69 q69 p69=>?_);refine W.s (fun K70 n70 e70 q70 p70=>?_);refine W.r ?_;refine oA 43 (AV.ptr (AHeap.next h_40) 0) ?_;refine oL 44 65 hF fun v44 hF=>?_;refine oCb hc 45 hF fun t45 h_72 hF=>?_;refine oA 46 (.bool t45) ?_;obtain⟨j49,e76,hF⟩:=zc hF
     have J77:∀(t49:Bool) (h_75:AHeap),j49 t49 h_75=some (rR,hR)→WL Tryd.prog w0 m0 (Func.ntmps Tryd.f20) (Code.ops (y6 (y6 (y3 (y3 (y3 (y6 (y6 (y3 (y3 (y6 (y6 (y3 (y6 (y3 (y3 (y3 (z4e Tryd.f20)))))))))))))))))) 7 K70 [(0,t0),(1,.int .u8 t1),(6,.int .i64 t6_37),(7,.bool t7_38),(8,.int .i64 t8_39),(10,(z7 h_40)),(30,v30),(31,.int .i64 t31),(32,.int .i64 t32),(49,.bool t49)] [] h_75:=by
      intro t49 h_75 hF;rw[e76] at hF;refine oV [(0,t0),(1,.int .u8 t1),(6,.int .i64 t6_37),(7,.bool t7_38),(8,.int .i64 t8_39),(10,(z7 h_40)),(30,v30),(31,.int .i64 t31),(32,.int .i64 t32),(49,.bool t49)] (n70 ?_);obtain⟨k78,e78,hF⟩:=zc hF
      have J78:∀(t6_79:Int) (t7_80:Bool) (h_81:AHeap),k78 t6_79 t7_80 h_81=some (rR,hR)→Go w0 m0 (Func.ntmps Tryd.f20) (K69 .normal) [(0,t0),(1,.int .u8 t1),(6,.int .i64 t6_79),(7,.bool t7_80),(8,.int .i64 t8_39),(10,(z7 h_40)),(30,v30),(31,.int .i64 t31),(32,.int .i64 t32)] [] h_81:=by
       intro t6_79 t7_80 h_81 hF;rw[e78] at hF;refine n69 ?_;refine oG fun n82=>?_;refine y1e (by kernel_rfl) (hc.ok w0) (plan:=[0,1,2,3,4,5,6,7]) (by kernel_rfl) (by kernel_rfl) (by kernel_rfl) ?_;refine WD.a 0 (some 52) t0 h_81 ?_;obtain⟨t53,e83,hF⟩:=z4 hF;refine WD.b 0 (some 53) t53 h_81 (z2c (h:=h_81) e83) ?_;obtain⟨t54,e84,hF⟩:=z4 hF;refine WD.b 0 (some 54) t54 h_81 (z1b (P:=Tryd.prog) (h:=h_81) (s:=55) (f:=1) (by kernel_rfl) e84) ?_;obtain⟨v55,e85,hF⟩:=z4 hF;refine WD.b 1 (some 55) v55 h_81 (z15 (P:=Tryd.prog) (h:=h_81) (t:=53) (by kernel_rfl) e85) ?_;refine WD.a 0 (some 56) (.int .i64 t8_39) h_81 ?_;obtain⟨t57,e86,hF⟩:=z4 hF;refine WD.b 1 (some 57) (.agg t57) h_81 (zc6 (P:=Tryd.prog) (h:=h_81) (t:=67) (by kernel_rfl) (by kernel_rfl) e86) ?_;obtain⟨t58,e87,hF⟩:=z4 hF;refine WD.b 0 (some 58) t58 h_81 (z18f (P:=Tryd.prog) (h:=h_81) (t:=53) (e':=67) (k:=.i64) (by kernel_rfl) (by kernel_rfl) (by kernel_rfl) e87) ?_;obtain⟨h_88,e89,hF⟩:=z4 hF;refine WD.eff (h':=h_88) (by kernel_rfl) (by kernel_rfl) (Eq.trans (by kernel_rfl) (z3d (P:=Tryd.prog) (h:=h_81) (t:=67) (v:=(.agg t57)) (by kernel_rfl) (by kernel_rfl) e89)) (k:=2) (by kernel_rfl) (fun _=>(by kernel_rfl)) (by decide) ?_;refine WD.nil ?_;refine gW [(0,t0),(1,.int .u8 t1),(6,.int .i64 t6_79),(7,.bool t7_80),(8,.int .i64 t8_39),(30,v30),(31,.int .i64 t31),(32,.int .i64 t32)] (n82 (W.r ?_));refine oA 59 (.int .i64 t8_39) ?_;refine oI 60 .i64 hF fun t60 hF=>?_;refine oA 8 (.int .i64 t60) ?_;refine oV [(0,t0),(1,.int .u8 t1),(6,.int .i64 t6_79),(7,.bool t7_80),(8,.int .i64 t60),(30,v30),(31,.int .i64 t31),(32,.int .i64 t32)] (n45 ?_);exact gW _ (J46 _ _ _ _ hF)
      cases t49 with
      |true=>
       refine oT hF fun hF=>?_;refine W.r ?_;refine oA 50 (AV.ptr (AHeap.next h_40) 1) ?_;refine oLi 51 3 hF fun t51 hF=>?_;refine oA 6 (.int .i64 t51) ?_;refine oA 7 (.bool true) ?_;refine oV [(0,t0),(1,.int .u8 t1),(6,.int .i64 t51),(7,.bool true),(8,.int .i64 t8_39),(10,(z7 h_40)),(30,v30),(31,.int .i64 t31),(32,.int .i64 t32)] ?_;exact gW _ (J78 _ _ _ hF)
      |false=>
       refine oU hF fun hF=>?_;refine oZ ?_;exact gW _ (J78 _ _ _ hF)
     cases t45 with
     |true=>
      replace hF:=zae hF
      refine oA 47 (.bool t7_38) ?_;refine oB 48 hF fun t48 hF=>?_;refine oA 49 (.bool t48) ?_;exact lW _ (J77 _ _ hF)
     |false=>
      replace hF:=zaf hF
      refine WL.o (some 47) ?_;refine WL.o (some 48) ?_;refine oA 49 (.bool false) ?_;exact lW _ (J77 _ _ hF)
   |false=>
    refine oU hF fun hF=>?_;refine W.exit (by kernel_rfl) ?_;refine e43 (e36 ?_);refine s29 (by kernel_rfl) ?_;exact gW _ (J30 _ _ _ _ hF)
 exact gW _ (L36 _ _ _ _ _ _ hF)
noncomputable def zd1(_:zd)(_:Nat)(t0:AV)(t1:Int)(h:AHeap):R:=obind (z74 t0) fun t5=>obind (z4d 1 t5) fun t6=>obind (z9 h t6) fun v7=>outK (zbc Tryd.prog h 53 v7 (some (.int .i64 t1)) none) fun v9 h_5=>outK (z1ce Tryd.prog h_5 53 v9) fun _ h_7=>obind (z74 t0) fun t12=>obind (z4d 1 t12) fun t13=>obind (z9 h_7 t13) fun v14=>outK (zbc Tryd.prog h_7 53 v14 none (some (.int .i64 t1))) fun v16 h_12=>obind (z74 t0) fun t17=>obind (z4d 1 t17) fun t18=>obind (z17 h_12 1 (AV.cells v16) t18) fun h_16=>some (.ret (.tup []),h_16)
set_option maxHeartbeats 4000000 in
set_option maxRecDepth 20000 in
theorem z270{call:zd}(_:SaysAll Tryd.prog call){n:Nat}{t0:AV}{t1:Int}{h:AHeap}{rR:ARes}{hR:AHeap}(hF:zd1 call n t0 t1 h=some (rR,hR)):Says Tryd.prog 21 [t0,.int .i64 t1] h rR hR:=by
 unfold zd1 at hF;refine sO Tryd.func21 fun w0 m0=>?_;refine wW [(0,t0),(1,.int .i64 t1)] ?_;refine oG fun n1=>W.r ?_;refine oA 4 t0 ?_;refine oC0 5 hF fun t5 hF=>?_;refine oF 6 55 1 hF fun t6 hF=>?_;refine oL 7 53 hF fun v7 hF=>?_;refine oA 8 (.int .i64 t1) ?_;refine oK 9 hF fun v9 h_5 hF=>?_;obtain⟨v,h_7,e8,hF⟩:=z27 hF;refine WL.b none v h_7 e8 ?_;refine oV [(0,t0),(1,.int .i64 t1)] (n1 (W.r ?_));refine oA 10 t0 ?_;refine oA 11 t0 ?_;refine oC0 12 hF fun t12 hF=>?_;refine oF 13 55 1 hF fun t13 hF=>?_;refine oL 14 53 hF fun v14 hF=>?_;refine oA 15 (.int .i64 t1) ?_;refine oK 16 hF fun v16 h_12 hF=>?_;refine oC0 17 hF fun t17 hF=>?_;refine oF 18 55 1 hF fun t18 hF=>?_;refine oW 53 v16 hF fun h_16 hF=>?_;refine oV [] ?_;exact lY hF [] [] zf
noncomputable def zc0(call:zd)(_:Nat)(t0:List AV)(h:AHeap):R:=outK (z116 h 41 (some (.agg t0))) fun v1 h_2=>obind (z18 h_2 2 v1) fun t6=>callN (call 29 [.agg t6] h_2) fun r7 h_6=>obind (z12b 0 r7) fun v8=>obind (z75 v8) fun t8=>obind (z12b 1 r7) fun v9=>obind (z75 v9) fun t9=>lett (newH h_6 79 [.int .i64 0,.int .u64 0,.int .u64 0,.int .u64 0,.int .u64 0,.nsl]) fun h_12=>lett (newH h_12 81 [.int .i64 0,.int .i64 0]) fun h_14=>obind (z17 h_14 6 t8 (z7 h_6)) fun h_16=>obind (z17 h_16 2 t9 (z7 h_12)) fun h_18=>obind (z9 h_18 (AV.ptr (AHeap.next h_12) 0)) fun v11=>obind (avInt .i64 v11) fun t11=>lett ((t11:Int) == 0) fun (t12:Bool)=>lett (fun (t16:Bool) (h_24:AHeap)=>some (.ret (.bool t16),h_24)) fun j16=>ifB t12 (obind (z18 h_18 6 (z7 h_6)) fun t14=>callN (call 32 [.agg t14] h_18) fun r15 h_28=>obind (z23 r15) fun t15=>j16 t15 h_28) (j16 false h_18)
set_option maxHeartbeats 4000000 in
set_option maxRecDepth 20000 in
theorem z294{call:zd}(hc:SaysAll Tryd.prog call){n:Nat}{t0:List AV}{h:AHeap}{rR:ARes}{hR:AHeap}(hF:zc0 call n t0 h=some (rR,hR)):Says Tryd.prog 24 [.agg t0] h rR hR:=by
 unfold zc0 at hF;refine sO Tryd.func24 fun w0 m0=>?_;refine wW [(0,.agg t0)] ?_;refine oG fun n1=>W.r ?_;refine oK 1 hF fun v1 h_2 hF=>?_;refine oA 2 (.bool false) ?_;refine oV [(1,v1)] (n1 ?_);refine oG fun n4=>W.r ?_;refine oR 6 41 hF fun t6 hF=>?_;refine oC hc (some 7) hF fun r7 h_6 hF=>?_;refine oA 5 r7 ?_;refine oEa 8 hF fun t8 hF=>?_;refine oEa 9 hF fun t9 hF=>?_;refine oN 3 hF fun h_12 hF=>?_;refine oN 4 hF fun h_14 hF=>?_;refine oW 79 (.agg t8) hF fun h_16 hF=>?_;refine oW 81 (.agg t9) hF fun h_18 hF=>?_;refine oV [(3,(z7 h_6)),(4,(z7 h_12))] (n4 ?_);refine W.s (fun K20 n20 e20 q20 p20=>?_);refine W.r ?_;refine oA 10 (AV.ptr (AHeap.next h_12) 0) ?_;refine oLi 11 31 hF fun t11 hF=>?_;refine oB 12 hF fun t12 hF=>?_;refine oA 13 (.bool t12) ?_;obtain⟨j16,e25,hF⟩:=zc hF
 have J26:∀(t16:Bool) (h_24:AHeap),j16 t16 h_24=some (rR,hR)→WL Tryd.prog w0 m0 (Func.ntmps Tryd.f24) (Code.ops (y6 (y3 (y3 (z4e Tryd.f24))))) 7 K20 [(16,.bool t16)] [] h_24:=by
  intro t16 h_24 hF;rw[e25] at hF;refine oA 2 (.bool t16) ?_;refine oV [(2,.bool t16)] (n20 (oY ?_));exact lZ hF [.tmp 2] [.bool t16] (rT zf)
 cases t12 with
 |true=>
  replace hF:=zae hF
  refine oR 14 79 hF fun t14 hF=>?_;refine oCb hc 15 hF fun t15 h_28 hF=>?_;refine oA 16 (.bool t15) ?_;exact lW _ (J26 _ _ hF)
 |false=>
  replace hF:=zaf hF
  refine WL.o (some 14) ?_;refine WL.o (some 15) ?_;refine oA 16 (.bool false) ?_;exact lW _ (J26 _ _ hF)
noncomputable def ze9(call:zd)(v30:AV)(t31:Int)(k62:AHeap→R)(self:Int→AHeap→R)(t32:Int)(h_65:AHeap):R:=lett (decide (t32<t31)) fun (t33:Bool)=>ifB t33 (obind (z1a6 6 v30 t32) fun t34=>obind (z18 h_65 6 t34) fun t35=>lett (newH h_65 79 [.int .i64 0,.int .u64 0,.int .u64 0,.int .u64 0,.int .u64 0,.nsl]) fun h_74=>obind (z17 h_74 6 t35 (z7 h_65)) fun h_76=>obind (z18 h_76 6 (z7 h_65)) fun t36=>callN (call 32 [.agg t36] h_76) fun r37 h_80=>obind (z23 r37) fun t37=>ifB t37 (some (.ret (.bool true),h_80)) (lett (IntKind.i64.wrap (t32+1)) fun (t38:Int)=>self t38 h_80)) (k62 h_65)
noncomputable def zc8(call:zd)(v30:AV)(t31:Int)(k62:AHeap→R):Nat→Int→AHeap→R:=z103 (fun _ _=>none) (ze9 call v30 t31 k62)
theorem z176(call:zd)(v30:AV)(t31:Int)(k62:AHeap→R)(m:Nat):zc8 call v30 t31 k62 (m+1)=ze9 call v30 t31 k62 (zc8 call v30 t31 k62 m):=rfl
noncomputable def zea(call:zd)(v17:AV)(t18:Int)(k27:AHeap→R)(self:Int→AHeap→R)(t19:Int)(h_31:AHeap):R:=lett (decide (t19<t18)) fun (t20:Bool)=>ifB t20 (obind (z1a6 6 v17 t19) fun t21=>obind (z18 h_31 6 t21) fun t22=>lett (newH h_31 79 [.int .i64 0,.int .u64 0,.int .u64 0,.int .u64 0,.int .u64 0,.nsl]) fun h_40=>obind (z17 h_40 6 t22 (z7 h_31)) fun h_42=>obind (z18 h_42 6 (z7 h_31)) fun t23=>callN (call 32 [.agg t23] h_42) fun r24 h_46=>obind (z23 r24) fun t24=>lett (!t24) fun (t25:Bool)=>ifB t25 (some (.ret (.bool false),h_46)) (lett (IntKind.i64.wrap (t19+1)) fun (t26:Int)=>self t26 h_46)) (k27 h_31)
noncomputable def z9d(call:zd)(v17:AV)(t18:Int)(k27:AHeap→R):Nat→Int→AHeap→R:=z103 (fun _ _=>none) (zea call v17 t18 k27)
theorem z177(call:zd)(v17:AV)(t18:Int)(k27:AHeap→R)(m:Nat):z9d call v17 t18 k27 (m+1)=zea call v17 t18 k27 (z9d call v17 t18 k27 m):=rfl
noncomputable def zbf(call:zd)(n:Nat)(t0:List AV)(h:AHeap):R:=outK (z116 h 79 (some (.agg t0))) fun v1 h_2=>obind (z4d 0 v1) fun t7=>obind (z9 h_2 t7) fun v8=>obind (avInt .i64 v8) fun t8=>lett ((t8:Int) == 1) fun (t10:Bool)=>lett (fun (t9:Bool) (h_14:AHeap)=>ifB t9 (some (.ret (.bool true),h_14)) (lett ((t8:Int) == 6) fun (t14:Bool)=>lett (fun (t13:Bool) (h_20:AHeap)=>ifB t13 (obind (z4d 5 v1) fun t16=>obind (z9 h_20 t16) fun v17=>obind (z153 v17) fun t18=>lett (fun (h_28:AHeap)=>some (.ret (.bool true),h_28)) fun k27=>z9d call v17 t18 k27 n 0 h_20) (lett ((t8:Int) == 4) fun (t28:Bool)=>lett (fun (h_55:AHeap)=>some (.ret (.bool false),h_55)) fun k54=>ifB t28 (obind (z4d 5 v1) fun t29=>obind (z9 h_20 t29) fun v30=>obind (z153 v30) fun t31=>lett (fun (h_63:AHeap)=>k54 h_63) fun k62=>zc8 call v30 t31 k62 n 0 h_20) (k54 h_20))) fun k19=>ifB t14 (k19 true h_14) (lett ((t8:Int) == 3) fun (t15:Bool)=>k19 t15 h_14))) fun k13=>ifB t10 (k13 true h_2) (lett ((t8:Int) == 5) fun (t11:Bool)=>lett (fun (t9_89:Bool) (h_90:AHeap)=>k13 t9_89 h_90) fun k88=>ifB t11 (k88 true h_2) (lett ((t8:Int) == 7) fun (t12:Bool)=>k88 t12 h_2))
set_option maxHeartbeats 4000000 in
set_option maxRecDepth 20000 in
theorem z293{call:zd}(hc:SaysAll Tryd.prog call){n:Nat}{t0:List AV}{h:AHeap}{rR:ARes}{hR:AHeap}(hF:zbf call n t0 h=some (rR,hR)):Says Tryd.prog 32 [.agg t0] h rR hR:=by
 unfold zbf at hF;refine sO Tryd.func32 fun w0 m0=>?_;refine wW [(0,.agg t0)] ?_;refine oG fun n1=>W.r ?_;refine oK 1 hF fun v1 h_2 hF=>?_;refine oA 2 (.bool false) ?_;refine oV [(1,v1)] (n1 ?_);refine oH fun n4 q4=>?_;refine oG fun n5=>W.r ?_;refine oF 7 79 0 hF fun t7 hF=>?_;refine oLi 8 3 hF fun t8 hF=>?_;refine oV [(1,v1),(8,.int .i64 t8)] (n5 ?_);refine yd (by kernel_rfl) (fun K9 n9 s9 o9 q9 p9=>?_);refine W.s (fun K10 n10 e10 q10 p10=>?_);refine oG fun n11=>W.r ?_;refine oB 10 hF fun t10 hF=>?_;refine oA 9 (.bool t10) ?_;refine oV [(1,v1),(8,.int .i64 t8),(9,.bool t10)] (n11 ?_);obtain⟨k13,e13,hF⟩:=zc hF
 have J13:∀(t9:Bool) (h_14:AHeap),k13 t9 h_14=some (rR,hR)→Go w0 m0 (Func.ntmps Tryd.f32) (K10 .normal) [(1,v1),(8,.int .i64 t8),(9,.bool t9)] [] h_14:=by
  intro t9 h_14 hF;rw[e13] at hF;refine n10 ?_
  cases t9 with
  |true=>
   refine oT hF fun hF=>?_;refine oG fun n15=>W.r ?_;refine oA 2 (.bool true) ?_;refine oV [(2,.bool true)] (n15 (oY (q9 (q4 ?_))));exact lZ hF [.tmp 2] [.bool true] (rT zf)
  |false=>
   refine oU hF fun hF=>?_;refine W.s (fun K16 n16 e16 q16 p16=>?_);refine oG fun n17=>W.r ?_;refine oB 14 hF fun t14 hF=>?_;refine oA 13 (.bool t14) ?_;refine oV [(1,v1),(8,.int .i64 t8),(13,.bool t14)] (n17 ?_);obtain⟨k19,e19,hF⟩:=zc hF
   have J19:∀(t13:Bool) (h_20:AHeap),k19 t13 h_20=some (rR,hR)→Go w0 m0 (Func.ntmps Tryd.f32) (K16 .normal) [(1,v1),(8,.int .i64 t8),(13,.bool t13)] [] h_20:=by
    intro t13 h_20 hF;rw[e19] at hF;refine n16 ?_
    cases t13 with
    |true=>
     refine oT hF fun hF=>?_;refine W.s (fun K21 n21 e21 q21 p21=>?_);refine oG fun n22=>W.r ?_;refine oF 16 79 2 hF fun t16 hF=>?_;refine oL 17 77 hF fun v17 hF=>?_;refine oM 18 77 79 hF fun t18 hF=>?_;refine oA 19 (.int .i64 0) ?_;refine oV [(17,v17),(18,.int .i64 t18),(19,.int .i64 0)] (n22 ?_);obtain⟨k27,e27,hF⟩:=zc hF
     have J27:∀(h_28:AHeap),k27 h_28=some (rR,hR)→Go w0 m0 (Func.ntmps Tryd.f32) (K21 .normal) [] [] h_28:=by
      intro h_28 hF;rw[e27] at hF;refine n21 ?_;refine oG fun n29=>W.r ?_;refine oA 2 (.bool true) ?_;refine oV [(2,.bool true)] (n29 (oY (q9 (q4 ?_))));exact lZ hF [.tmp 2] [.bool true] (rT zf)
     refine yd (by kernel_rfl) (fun K26 n26 s26 o26 q26 p26=>?_);refine y17 (by kernel_rfl) (fun I30 K30 b30 n30 e30 q30 p30=>?_)
     have L30:∀(m:Nat) (t19:Int) (h_31:AHeap),z9d call v17 t18 k27 m t19 h_31=some (rR,hR)→Go w0 m0 (Func.ntmps Tryd.f32) I30 [(17,v17),(18,.int .i64 t18),(19,.int .i64 t19)] [] h_31:=by
      intro m
      induction m with
      |zero=>intro t19 h_31 hF;cases hF
      |succ m ih30=>
       intro t19 h_31 hF;rw[z177] at hF;unfold zea at hF;refine b30 ?_;refine oG fun n32=>W.r ?_;refine oB 20 hF fun t20 hF=>?_;refine oV [(17,v17),(18,.int .i64 t18),(19,.int .i64 t19),(20,.bool t20)] (n32 ?_);refine W.s (fun K34 n34 e34 q34 p34=>?_)
       cases t20 with
       |true=>
        refine oT hF fun hF=>?_;refine oZ (n34 ?_);refine oH fun n35 q35=>?_;refine yd (by kernel_rfl) (fun K36 n36 s36 o36 q36 p36=>?_);refine oG fun n37=>W.r ?_;refine oP 21 77 79 .i64 hF fun t21 hF=>?_;refine oR 22 79 hF fun t22 hF=>?_;refine oN 4 hF fun h_40 hF=>?_;refine oW 79 (.agg t22) hF fun h_42 hF=>?_;refine oV [(4,(z7 h_31)),(17,v17),(18,.int .i64 t18),(19,.int .i64 t19)] (n37 ?_);refine oG fun n44=>W.r ?_;refine oR 23 79 hF fun t23 hF=>?_;refine oCb hc 24 hF fun t24 h_46 hF=>?_;refine oB 25 hF fun t25 hF=>?_;refine oV [(17,v17),(18,.int .i64 t18),(19,.int .i64 t19),(25,.bool t25)] (n44 ?_)
        cases t25 with
        |true=>
         refine oT hF fun hF=>?_;refine oG fun n50=>W.r ?_;refine oA 2 (.bool false) ?_;refine oV [(2,.bool false)] (n50 (oY (q36 (q35 (q30 (q26 (q21 (q9 (q4 ?_)))))))));exact lZ hF [.tmp 2] [.bool false] (rT zf)
        |false=>
         refine oU hF fun hF=>?_;refine oZ (n36 (n35 (W.r ?_)));refine oI 26 .i64 hF fun t26 hF=>?_;refine oA 19 (.int .i64 t26) ?_;refine oV [(17,v17),(18,.int .i64 t18),(19,.int .i64 t26)] (n30 ?_);exact gW _ (ih30 _ _ hF)
       |false=>
        refine oU hF fun hF=>?_;refine W.exit (by kernel_rfl) ?_;refine e34 (e30 ?_);refine s26 (by kernel_rfl) ?_;exact gW _ (J27 _ hF)
     exact gW _ (L30 _ _ _ hF)
    |false=>
     refine oU hF fun hF=>?_;refine oG fun n52=>W.r ?_;refine oB 28 hF fun t28 hF=>?_;refine oA 27 (.bool t28) ?_;refine oV [(1,v1),(27,.bool t28)] (n52 ?_);obtain⟨k54,e54,hF⟩:=zc hF
     have J54:∀(h_55:AHeap),k54 h_55=some (rR,hR)→Go w0 m0 (Func.ntmps Tryd.f32) (K9 .normal) [] [] h_55:=by
      intro h_55 hF;rw[e54] at hF;refine n9 (n4 ?_);refine oG fun n56=>W.r ?_;refine oA 2 (.bool false) ?_;refine oV [(2,.bool false)] (n56 (oY ?_));exact lZ hF [.tmp 2] [.bool false] (rT zf)
     cases t28 with
     |true=>
      refine oT hF fun hF=>?_;refine oG fun n57=>W.r ?_;refine oF 29 79 2 hF fun t29 hF=>?_;refine oL 30 77 hF fun v30 hF=>?_;refine oM 31 77 79 hF fun t31 hF=>?_;refine oA 32 (.int .i64 0) ?_;refine oV [(30,v30),(31,.int .i64 t31),(32,.int .i64 0)] (n57 ?_);obtain⟨k62,e62,hF⟩:=zc hF
      have J62:∀(h_63:AHeap),k62 h_63=some (rR,hR)→Go w0 m0 (Func.ntmps Tryd.f32) (K9 .normal) [] [] h_63:=by
       intro h_63 hF;rw[e62] at hF;exact gW _ (J54 _ hF)
      refine yd (by kernel_rfl) (fun K61 n61 s61 o61 q61 p61=>?_);refine y17 (by kernel_rfl) (fun I64 K64 b64 n64 e64 q64 p64=>?_)
      have L64:∀(m:Nat) (t32:Int) (h_65:AHeap),zc8 call v30 t31 k62 m t32 h_65=some (rR,hR)→Go w0 m0 (Func.ntmps Tryd.f32) I64 [(30,v30),(31,.int .i64 t31),(32,.int .i64 t32)] [] h_65:=by
       intro m
       induction m with
       |zero=>intro t32 h_65 hF;cases hF
       |succ m ih64=>
        intro t32 h_65 hF;rw[z176] at hF;unfold ze9 at hF;refine b64 ?_;refine oG fun n66=>W.r ?_;refine oB 33 hF fun t33 hF=>?_;refine oV [(30,v30),(31,.int .i64 t31),(32,.int .i64 t32),(33,.bool t33)] (n66 ?_);refine W.s (fun K68 n68 e68 q68 p68=>?_)
        cases t33 with
        |true=>
         refine oT hF fun hF=>?_;refine oZ (n68 ?_);refine oH fun n69 q69=>?_;refine yd (by kernel_rfl) (fun K70 n70 s70 o70 q70 p70=>?_);refine oG fun n71=>W.r ?_;refine oP 34 77 79 .i64 hF fun t34 hF=>?_;refine oR 35 79 hF fun t35 hF=>?_;refine oN 6 hF fun h_74 hF=>?_;refine oW 79 (.agg t35) hF fun h_76 hF=>?_;refine oV [(6,(z7 h_65)),(30,v30),(31,.int .i64 t31),(32,.int .i64 t32)] (n71 ?_);refine oG fun n78=>W.r ?_;refine oR 36 79 hF fun t36 hF=>?_;refine oCb hc 37 hF fun t37 h_80 hF=>?_;refine oV [(30,v30),(31,.int .i64 t31),(32,.int .i64 t32),(37,.bool t37)] (n78 ?_)
         cases t37 with
         |true=>
          refine oT hF fun hF=>?_;refine oG fun n83=>W.r ?_;refine oA 2 (.bool true) ?_;refine oV [(2,.bool true)] (n83 (oY (q70 (q69 (q64 (q61 (q9 (q4 ?_))))))));exact lZ hF [.tmp 2] [.bool true] (rT zf)
         |false=>
          refine oU hF fun hF=>?_;refine oZ (n70 (n69 (W.r ?_)));refine oI 38 .i64 hF fun t38 hF=>?_;refine oA 32 (.int .i64 t38) ?_;refine oV [(30,v30),(31,.int .i64 t31),(32,.int .i64 t38)] (n64 ?_);exact gW _ (ih64 _ _ hF)
        |false=>
         refine oU hF fun hF=>?_;refine W.exit (by kernel_rfl) ?_;refine e68 (e64 ?_);refine s61 (by kernel_rfl) ?_;exact gW _ (J62 _ hF)
      exact gW _ (L64 _ _ _ hF)
     |false=>
      refine oU hF fun hF=>?_;refine oZ ?_;exact gW _ (J54 _ hF)
   cases t14 with
   |true=>
    refine oT hF fun hF=>?_;refine oZ ?_;exact gW _ (J19 _ _ hF)
   |false=>
    refine oU hF fun hF=>?_;refine W.r ?_;refine oB 15 hF fun t15 hF=>?_;refine oA 13 (.bool t15) ?_;refine oV [(1,v1),(8,.int .i64 t8),(13,.bool t15)] ?_;exact gW _ (J19 _ _ hF)
 cases t10 with
 |true=>
  refine oT hF fun hF=>?_;refine oZ ?_;exact gW _ (J13 _ _ hF)
 |false=>
  refine oU hF fun hF=>?_;refine oG fun n86=>W.r ?_;refine oB 11 hF fun t11 hF=>?_;refine oA 9 (.bool t11) ?_;refine oV [(1,v1),(8,.int .i64 t8),(9,.bool t11)] (n86 ?_);obtain⟨k88,e88,hF⟩:=zc hF
  have J88:∀(t9_89:Bool) (h_90:AHeap),k88 t9_89 h_90=some (rR,hR)→Go w0 m0 (Func.ntmps Tryd.f32) (K10 .normal) [(1,v1),(8,.int .i64 t8),(9,.bool t9_89)] [] h_90:=by
   intro t9_89 h_90 hF;rw[e88] at hF;exact gW _ (J13 _ _ hF)
  cases t11 with
  |true=>
   refine oT hF fun hF=>?_;refine oZ ?_;exact gW _ (J88 _ _ hF)
  |false=>
   refine oU hF fun hF=>?_;refine W.r ?_;refine oB 12 hF fun t12 hF=>?_;refine oA 9 (.bool t12) ?_;refine oV [(1,v1),(8,.int .i64 t8),(9,.bool t12)] ?_;exact gW _ (J88 _ _ hF)
noncomputable def z169(call:zd)(_:Nat)(t0:AV)(h:AHeap):R:=callN (call 18 [t0] h) fun r8 h_3=>obind (z12b 0 r8) fun v9=>obind (z12b 1 r8) fun v10=>obind (avInt .i64 v10) fun t10=>lett ((t10:Int) != 0) fun (t12:Bool)=>ifB t12 (some (.ret (.tup [AV.nilp,.int .i64 t10]),h_3)) (obind (z252 Tryd.prog 49 [(0,v9)]) fun t15=>outK (z116 h_3 49 (some (.agg t15))) fun v16 h_14=>some (.ret (.tup [v16,.int .i64 0]),h_14))
set_option maxHeartbeats 4000000 in
set_option maxRecDepth 20000 in
theorem z393{call:zd}(hc:SaysAll Tryd.prog call){n:Nat}{t0:AV}{h:AHeap}{rR:ARes}{hR:AHeap}(hF:z169 call n t0 h=some (rR,hR)):Says Tryd.prog 8 [t0] h rR hR:=by
 unfold z169 at hF;refine sO Tryd.func8 fun w0 m0=>?_;refine wW [(0,t0)] ?_;refine oG fun n1=>W.r ?_;refine oA 2 AV.nilp ?_;refine oA 3 (.int .i64 0) ?_;refine oV [(0,t0)] (n1 ?_);refine oG fun n2=>W.r ?_;refine oA 7 t0 ?_;refine oC hc (some 8) hF fun r8 h_3 hF=>?_;refine oA 6 r8 ?_;refine oE 9 hF fun v9 hF=>?_;refine oEi 10 hF fun t10 hF=>?_;refine oA 4 v9 ?_;refine oA 5 (.int .i64 t10) ?_;refine oV [(4,v9),(5,.int .i64 t10)] (n2 ?_);refine oH fun n8 q8=>?_;refine oG fun n9=>W.r ?_;refine oA 11 (.int .i64 t10) ?_;refine oB 12 hF fun t12 hF=>?_;refine oV [(4,v9),(5,.int .i64 t10),(12,.bool t12)] (n9 ?_)
 cases t12 with
 |true=>
  refine oT hF fun hF=>?_;refine oG fun n11=>W.r ?_;refine oA 13 (.int .i64 t10) ?_;refine oA 2 AV.nilp ?_;refine oA 3 (.int .i64 t10) ?_;refine oV [(2,AV.nilp),(3,.int .i64 t10)] (n11 (oY (q8 ?_)));exact lZ hF [.tmp 2,.tmp 3] [AV.nilp,.int .i64 t10] (rT (rT zf))
 |false=>
  refine oU hF fun hF=>?_;refine oZ (n8 ?_);refine oG fun n12=>W.r ?_;refine oA 14 v9 ?_;obtain⟨t15,e13,hF⟩:=z4 hF;refine WL.val (d:=(some 15)) (v:=.agg t15) (h':=h_3) (by kernel_rfl) (by kernel_rfl) (z1b7 (by kernel_rfl) e13) ?_;refine oK 16 hF fun v16 h_14 hF=>?_;refine oA 2 v16 ?_;refine oA 3 (.int .i64 0) ?_;refine oV [(2,v16),(3,.int .i64 0)] (n12 (oY ?_));exact lZ hF [.tmp 2,.tmp 3] [v16,.int .i64 0] (rT (rT zf))
noncomputable def z6e(call:zd)(t0:AV)(t1:z11)(h:AHeap)(k16:AHeap→R)(self:Int→AHeap→R)(t16:Int)(h_24:AHeap):R:=
 lett (decide (t16<(z15b t1))) fun (t17:Bool)=>
 ifB t17
 (
  obind (idxS t1 t16) fun t22=>
  callN (call 13 [t0,.int .u8 t22] h_24) fun _ h_33=>
  obind (z74 t0) fun t25=>
  obind (z4d 2 t25) fun t26=>
  obind (z9 h_33 t26) fun v27=>
  obind (avInt .i64 v27) fun t27=>
  obind (z74 t0) fun t29=>
  obind (z4d 1 t29) fun t30=>
  obind (z9 h_33 t30) fun v31=>
  obind (z153 v31) fun t32=>
  lett (IntKind.i64.wrap (t27+t32)) fun (t33:Int)=>
  lett (IntKind.i64.wrap (t33 - 1)) fun (t34:Int)=>
  obind (z74 t0) fun t37=>
  obind (z4d 0 t37) fun t38=>
  obind (z9 h_33 t38) fun v39=>
  obind (idxS t1 t16) fun t42=>
  lett (newH h_33 26 [.int .i64 0,.int .i64 0,.int .i64 0]) fun h_51=>
  callN (call 14 [v39,.int .u8 t42,.int .i64 t34] h_51) fun r44 h_53=>
  chk (z3d4 h_53 (AHeap.next h_33) 26 [.int .i64 0,.int .i64 0,.int .i64 0]&&(true&&true))<|
  obind (z12b 0 r44) fun v45=>
  obind (z75 v45) fun t45=>
  obind (z12b 1 r44) fun v46=>
  obind (z23 v46) fun t46=>
  obind (z17 h_53 3 t45 (z7 h_33)) fun h_60=>
  ifB t46
  (
   obind (z9 h_60 (AV.ptr (AHeap.next h_33) 1)) fun v49=>
   obind (avInt .i64 v49) fun t49=>
   obind (z74 t0) fun t51=>
   obind (z4d 2 t51) fun t52=>
   obind (z9 h_60 t52) fun v53=>
   obind (avInt .i64 v53) fun t53=>
   lett (IntKind.i64.wrap (t49 - t53)) fun (t54:Int)=>
   obind (z17 h_60 1 [.int .i64 t54] (AV.ptr (AHeap.next h_33) 1)) fun h_71=>
   obind (z9 h_71 (AV.ptr (AHeap.next h_33) 2)) fun v57=>
   obind (avInt .i64 v57) fun t57=>
   obind (z74 t0) fun t59=>
   obind (z4d 2 t59) fun t60=>
   obind (z9 h_71 t60) fun v61=>
   obind (avInt .i64 v61) fun t61=>
   lett (IntKind.i64.wrap (t57 - t61)) fun (t62:Int)=>
   obind (z17 h_71 1 [.int .i64 t62] (AV.ptr (AHeap.next h_33) 2)) fun h_81=>
   callN (call 15 [t0] h_81) fun _ h_84=>
   lett (IntKind.i64.wrap (t16+1)) fun (t67:Int)=>
   obind (z18 h_84 3 (z7 h_33)) fun t68=>
   obind (z17 h_84 3 t68 (z7 h)) fun h_89=>
   obind (z18 h_89 3 (z7 h)) fun w5_92=>
   some (.ret (.tup [.int .i64 t67,.agg w5_92,.bool true]),h_89))
  (
   lett (IntKind.i64.wrap (t16+1)) fun (t69:Int)=>
   self t69 h_60))
 (
  k16 h_24)
noncomputable def z7b(call:zd)(t0:AV)(t1:z11)(h:AHeap)(k16:AHeap→R):Nat→Int→AHeap→R:=z103 (fun _ _=>none) (z6e call t0 t1 h k16)
theorem zc4(call:zd)(t0:AV)(t1:z11)(h:AHeap)(k16:AHeap→R)(m:Nat):z7b call t0 t1 h k16 (m+1)=z6e call t0 t1 h k16 (z7b call t0 t1 h k16 m):=rfl
noncomputable def z62(call:zd)(n:Nat)(t0:AV)(t1:z11)(h:AHeap):R:=lett (newH h 26 [.int .i64 0,.int .i64 0,.int .i64 0]) fun h_2=>outK (zc1 Tryd.prog h_2 .eql 24 true (some t0) (some AV.nilp)) fun v12 h_6=>obind (z23 v12) fun t12=>ifB t12 (obind (z17 h_6 3 ([.int .i64 0,.int .i64 0,.int .i64 0]:List AV) (z7 h)) fun h_10=>obind (z18 h_10 3 (z7 h)) fun w5=>some (.ret (.tup [.int .i64 0,.agg w5,.bool false]),h_10)) (lett (fun (h_17:AHeap)=>obind (z17 h_17 3 ([.int .i64 0,.int .i64 0,.int .i64 0]:List AV) (z7 h)) fun h_19=>obind (z18 h_19 3 (z7 h)) fun w5_22=>some (.ret (.tup [.int .i64 (z15b t1),.agg w5_22,.bool false]),h_19)) fun k16=>z7b call t0 t1 h k16 n 0 h_6)
set_option maxHeartbeats 4000000 in
set_option maxRecDepth 20000 in
theorem z1d6{call:zd}(hc:SaysAll Tryd.prog call){n:Nat}{t0:AV}{t1:z11}{h:AHeap}{rR:ARes}{hR:AHeap}(hF:z62 call n t0 t1 h=some (rR,hR)):Says Tryd.prog 5 [t0,z19 t1] h rR hR:=by
 unfold z62 at hF;refine sO Tryd.func5 fun w0 m0=>?_;refine wW [(0,t0),(1,z19 t1)] ?_;refine oG fun n1=>W.r ?_;refine oA 4 (.int .i64 0) ?_;refine oN 5 hF fun h_2 hF=>?_;refine oA 6 (.bool false) ?_;refine oV [(0,t0),(1,z19 t1),(5,(z7 h))] (n1 ?_);refine oH fun n4 q4=>?_;refine oG fun n5=>W.r ?_;refine oA 11 t0 ?_
 replace hF:=z27 hF;obtain⟨v12,h_6,e7,hF⟩:=hF
 replace hF:=z4 hF;obtain⟨t12,c8,hF⟩:=hF
 have c8:=z34 c8;subst c8;refine WL.b (some 12) (.bool t12) h_6 e7 ?_;refine oV [(0,t0),(1,z19 t1),(5,(z7 h)),(12,.bool t12)] (n5 ?_)
 cases t12 with
 |true=>
  refine oT hF fun hF=>?_;refine oG fun n9=>W.r ?_;refine oA 13 (.agg ([.int .i64 0,.int .i64 0,.int .i64 0]:List AV)) ?_;refine oA 4 (.int .i64 0) ?_;refine oW 26 (.agg ([.int .i64 0,.int .i64 0,.int .i64 0]:List AV)) hF fun h_10 hF=>?_;refine oA 6 (.bool false) ?_;refine oV [(4,.int .i64 0),(5,(z7 h)),(6,.bool false)] (n9 (oY (q4 ?_)));obtain⟨w5,e12,hF⟩:=z4 hF;exact lZ hF [.tmp 4,.cell 5 26,.tmp 6] [.int .i64 0,.agg w5,.bool false] (rT (rY e12 (rT zf)))
 |false=>
  refine oU hF fun hF=>?_;refine oZ (n4 ?_);refine W.s (fun K13 n13 e13 q13 p13=>?_);refine oG fun n14=>W.r ?_;refine oA 14 (z19 t1) ?_;refine oA 15 (.int .i64 (z15b t1)) ?_;refine oA 16 (.int .i64 0) ?_;refine oV [(0,t0),(1,z19 t1),(5,(z7 h)),(15,.int .i64 (z15b t1)),(16,.int .i64 0)] (n14 ?_);obtain⟨k16,e16,hF⟩:=zc hF
  have J16:∀(h_17:AHeap),k16 h_17=some (rR,hR)→Go w0 m0 (Func.ntmps Tryd.f5) (K13 .normal) [(1,z19 t1),(5,(z7 h))] [] h_17:=by
   intro h_17 hF;rw[e16] at hF;refine n13 ?_;refine oG fun n18=>W.r ?_;refine oA 70 (z19 t1) ?_;refine oA 71 (.int .i64 (z15b t1)) ?_;refine oA 72 (.agg ([.int .i64 0,.int .i64 0,.int .i64 0]:List AV)) ?_;refine oA 4 (.int .i64 (z15b t1)) ?_;refine oW 26 (.agg ([.int .i64 0,.int .i64 0,.int .i64 0]:List AV)) hF fun h_19 hF=>?_;refine oA 6 (.bool false) ?_;refine oV [(4,.int .i64 (z15b t1)),(5,(z7 h)),(6,.bool false)] (n18 (oY ?_));obtain⟨w5_22,e21,hF⟩:=z4 hF;exact lZ hF [.tmp 4,.cell 5 26,.tmp 6] [.int .i64 (z15b t1),.agg w5_22,.bool false] (rT (rY e21 (rT zf)))
  refine yd (by kernel_rfl) (fun K15 n15 s15 o15 q15 p15=>?_);refine y17 (by kernel_rfl) (fun I23 K23 b23 n23 e23 q23 p23=>?_)
  have L23:∀(m:Nat) (t16:Int) (h_24:AHeap),z7b call t0 t1 h k16 m t16 h_24=some (rR,hR)→Go w0 m0 (Func.ntmps Tryd.f5) I23 [(0,t0),(1,z19 t1),(5,(z7 h)),(15,.int .i64 (z15b t1)),(16,.int .i64 t16)] [] h_24:=by
   intro m
   induction m with
   |zero=>intro t16 h_24 hF;cases hF
   |succ m ih23=>
    intro t16 h_24 hF;rw[zc4] at hF;unfold z6e at hF;refine b23 ?_;refine oG fun n25=>W.r ?_;refine oB 17 hF fun t17 hF=>?_;refine oV [(0,t0),(1,z19 t1),(5,(z7 h)),(15,.int .i64 (z15b t1)),(16,.int .i64 t16),(17,.bool t17)] (n25 ?_);refine W.s (fun K27 n27 e27 q27 p27=>?_)
    cases t17 with
    |true=>
     refine oT hF fun hF=>?_;refine oZ (n27 ?_);refine oH fun n28 q28=>?_;refine yd (by kernel_rfl) (fun K29 n29 s29 o29 q29 p29=>?_);refine oG fun n30=>W.r ?_;refine oA 18 (.int .i64 t16) ?_;refine oA 7 (.int .i64 t16) ?_;refine oV [(0,t0),(1,z19 t1),(5,(z7 h)),(7,.int .i64 t16),(15,.int .i64 (z15b t1)),(16,.int .i64 t16)] (n30 ?_);refine oG fun n31=>W.r ?_;refine oA 19 t0 ?_;refine oA 20 (z19 t1) ?_;refine oA 21 (.int .i64 t16) ?_;refine oX 22 9 .i64 hF fun t22 hF=>?_;refine oC hc (some 23) hF fun r23 h_33 hF=>?_;refine oV [(0,t0),(1,z19 t1),(5,(z7 h)),(7,.int .i64 t16),(15,.int .i64 (z15b t1)),(16,.int .i64 t16)] (n31 ?_);refine oG fun n35=>?_;refine y1e (by kernel_rfl) (hc.ok w0) (plan:=[0,1,2,3,4,5,6,7,8,9,10,11]) (by kernel_rfl) (by kernel_rfl) (by kernel_rfl) ?_;refine WD.a 0 (some 24) t0 h_33 ?_;obtain⟨t25,e36,hF⟩:=z4 hF;refine WD.b 0 (some 25) t25 h_33 (z2c (h:=h_33) e36) ?_;obtain⟨t26,e37,hF⟩:=z4 hF;refine WD.b 0 (some 26) t26 h_33 (z1b (P:=Tryd.prog) (h:=h_33) (s:=49) (f:=2) (by kernel_rfl) e37) ?_
     replace hF:=z4 hF;obtain⟨v27,e38,hF⟩:=hF
     replace hF:=z4 hF;obtain⟨t27,c39,hF⟩:=hF
     have c39:=z1a c39;subst c39;refine WD.b 1 (some 27) (.int .i64 t27) h_33 (z15 (P:=Tryd.prog) (h:=h_33) (t:=3) (by kernel_rfl) e38) ?_;refine WD.a 0 (some 28) t0 h_33 ?_;obtain⟨t29,e40,hF⟩:=z4 hF;refine WD.b 0 (some 29) t29 h_33 (z2c (h:=h_33) e40) ?_;obtain⟨t30,e41,hF⟩:=z4 hF;refine WD.b 0 (some 30) t30 h_33 (z1b (P:=Tryd.prog) (h:=h_33) (s:=49) (f:=1) (by kernel_rfl) e41) ?_;obtain⟨v31,e42,hF⟩:=z4 hF;refine WD.b 1 (some 31) v31 h_33 (z15 (P:=Tryd.prog) (h:=h_33) (t:=47) (by kernel_rfl) e42) ?_;obtain⟨t32,e43,hF⟩:=z4 hF;refine WD.b 0 (some 32) (.int .i64 t32) h_33 (z3e9 (P:=Tryd.prog) (h:=h_33) (t:=47) (e':=5) (by kernel_rfl) e43) ?_;obtain⟨t33,e44,hF⟩:=zc hF;refine WD.val (d:=(some 33)) (v:=.int .i64 t33) (h':=h_33) (by kernel_rfl) (by kernel_rfl) (z107 (AV.int .i64) e44 (by kernel_rfl)) (k:=0) (by kernel_rfl) (fun e=>absurd e (by decide)) (by decide) ?_;obtain⟨t34,e45,hF⟩:=zc hF;refine WD.val (d:=(some 34)) (v:=.int .i64 t34) (h':=h_33) (by kernel_rfl) (by kernel_rfl) (z107 (AV.int .i64) e45 (by kernel_rfl)) (k:=0) (by kernel_rfl) (fun e=>absurd e (by decide)) (by decide) ?_;refine WD.a 0 (some 8) (.int .i64 t34) h_33 ?_;refine WD.nil ?_;refine gW [(0,t0),(1,z19 t1),(5,(z7 h)),(7,.int .i64 t16),(8,.int .i64 t34),(15,.int .i64 (z15b t1)),(16,.int .i64 t16)] (n35 ?_);refine oG fun n46=>?_;refine y1e (by kernel_rfl) (hc.ok w0) (plan:=[0,1,2,3,4,5,6,7,12,8,9,10,11,13,14]) (by kernel_rfl) (by kernel_rfl) (by kernel_rfl) ?_;refine WD.a 0 (some 36) t0 h_33 ?_;obtain⟨t37,e47,hF⟩:=z4 hF;refine WD.b 0 (some 37) t37 h_33 (z2c (h:=h_33) e47) ?_;obtain⟨t38,e48,hF⟩:=z4 hF;refine WD.b 0 (some 38) t38 h_33 (z1b (P:=Tryd.prog) (h:=h_33) (s:=49) (f:=0) (by kernel_rfl) e48) ?_;obtain⟨v39,e49,hF⟩:=z4 hF;refine WD.b 1 (some 39) v39 h_33 (z15 (P:=Tryd.prog) (h:=h_33) (t:=46) (by kernel_rfl) e49) ?_;refine WD.a 0 (some 40) (z19 t1) h_33 ?_;refine WD.a 0 (some 41) (.int .i64 t16) h_33 ?_;obtain⟨t42,e50,hF⟩:=z4 hF;refine WD.b 0 (some 42) (.int .u8 t42) h_33 (z246 (P:=Tryd.prog) (h:=h_33) (t:=9) (k:=.i64) (by kernel_rfl) e50) ?_;refine WD.a 0 (some 43) (.int .i64 t34) h_33 ?_;obtain⟨h_51,e52,hF⟩:=zc hF;refine WD.val (d:=(some 9)) (v:=(z7 h_33)) (h':=h_51) (by kernel_rfl) (by kernel_rfl) (val_ofH e52 (by kernel_rfl)) (k:=1) (by kernel_rfl) (fun e=>absurd e (by decide)) (by decide) ?_;obtain⟨r44,h_53,e54,hF⟩:=z40 hF;obtain⟨k55,hF⟩:=zef hF;refine WD.call (d:=(some 44)) (by kernel_rfl) (by kernel_rfl) (by kernel_rfl) e54 (k:=2) (by kernel_rfl) (fun _=>(Eq.trans (by kernel_rfl) k55)) (by decide) ?_;refine WD.a 0 (some 35) r44 h_53 ?_
     replace hF:=z4 hF;obtain⟨v45,e56,hF⟩:=hF
     replace hF:=z4 hF;obtain⟨t45,c57,hF⟩:=hF
     have c57:=z50 c57;subst c57;refine WD.b 0 (some 45) (.agg t45) h_53 (z105 (h:=h_53) e56) ?_
     replace hF:=z4 hF;obtain⟨v46,e58,hF⟩:=hF
     replace hF:=z4 hF;obtain⟨t46,c59,hF⟩:=hF
     have c59:=z34 c59;subst c59;refine WD.b 0 (some 46) (.bool t46) h_53 (z105 (h:=h_53) e58) ?_;obtain⟨h_60,e61,hF⟩:=z4 hF;refine WD.eff (h':=h_60) (by kernel_rfl) (by kernel_rfl) (Eq.trans (by kernel_rfl) (z3d (P:=Tryd.prog) (h:=h_53) (t:=26) (v:=(.agg t45)) (by kernel_rfl) (by kernel_rfl) e61)) (k:=2) (by kernel_rfl) (fun _=>(by kernel_rfl)) (by decide) ?_;refine WD.a 0 (some 10) (.bool t46) h_60 ?_;refine WD.nil ?_;refine gW [(0,t0),(1,z19 t1),(5,(z7 h)),(7,.int .i64 t16),(9,(z7 h_33)),(10,.bool t46),(15,.int .i64 (z15b t1)),(16,.int .i64 t16)] (n46 ?_);refine oG fun n62=>W.r ?_;refine oA 47 (.bool t46) ?_;refine oV [(0,t0),(1,z19 t1),(5,(z7 h)),(7,.int .i64 t16),(9,(z7 h_33)),(15,.int .i64 (z15b t1)),(16,.int .i64 t16),(47,.bool t46)] (n62 ?_)
     cases t46 with
     |true=>
      refine oT hF fun hF=>?_;refine oG fun n63=>?_;refine y1e (by kernel_rfl) (hc.ok w0) (plan:=[0,1,2,3,4,5,6,7,8]) (by kernel_rfl) (by kernel_rfl) (by kernel_rfl) ?_;refine WD.a 0 (some 48) (AV.ptr (AHeap.next h_33) 1) h_60 ?_
      replace hF:=z4 hF;obtain⟨v49,e64,hF⟩:=hF
      replace hF:=z4 hF;obtain⟨t49,c65,hF⟩:=hF
      have c65:=z1a c65;subst c65;refine WD.b 1 (some 49) (.int .i64 t49) h_60 (z15 (P:=Tryd.prog) (h:=h_60) (t:=3) (by kernel_rfl) e64) ?_;refine WD.a 0 (some 50) t0 h_60 ?_;obtain⟨t51,e66,hF⟩:=z4 hF;refine WD.b 0 (some 51) t51 h_60 (z2c (h:=h_60) e66) ?_;obtain⟨t52,e67,hF⟩:=z4 hF;refine WD.b 0 (some 52) t52 h_60 (z1b (P:=Tryd.prog) (h:=h_60) (s:=49) (f:=2) (by kernel_rfl) e67) ?_
      replace hF:=z4 hF;obtain⟨v53,e68,hF⟩:=hF
      replace hF:=z4 hF;obtain⟨t53,c69,hF⟩:=hF
      have c69:=z1a c69;subst c69;refine WD.b 1 (some 53) (.int .i64 t53) h_60 (z15 (P:=Tryd.prog) (h:=h_60) (t:=3) (by kernel_rfl) e68) ?_;obtain⟨t54,e70,hF⟩:=zc hF;refine WD.val (d:=(some 54)) (v:=.int .i64 t54) (h':=h_60) (by kernel_rfl) (by kernel_rfl) (z107 (AV.int .i64) e70 (by kernel_rfl)) (k:=0) (by kernel_rfl) (fun e=>absurd e (by decide)) (by decide) ?_;refine WD.a 0 (some 55) (AV.ptr (AHeap.next h_33) 1) h_60 ?_;obtain⟨h_71,e72,hF⟩:=z4 hF;refine WD.eff (h':=h_71) (by kernel_rfl) (by kernel_rfl) (Eq.trans (by kernel_rfl) (z3d (P:=Tryd.prog) (h:=h_60) (t:=3) (v:=(.int .i64 t54)) (by kernel_rfl) (by kernel_rfl) e72)) (k:=2) (by kernel_rfl) (fun _=>(by kernel_rfl)) (by decide) ?_;refine WD.nil ?_;refine gW [(0,t0),(5,(z7 h)),(7,.int .i64 t16),(9,(z7 h_33))] (n63 ?_);refine oG fun n73=>?_;refine y1e (by kernel_rfl) (hc.ok w0) (plan:=[0,1,2,3,4,5,6,7,8]) (by kernel_rfl) (by kernel_rfl) (by kernel_rfl) ?_;refine WD.a 0 (some 56) (AV.ptr (AHeap.next h_33) 2) h_71 ?_
      replace hF:=z4 hF;obtain⟨v57,e74,hF⟩:=hF
      replace hF:=z4 hF;obtain⟨t57,c75,hF⟩:=hF
      have c75:=z1a c75;subst c75;refine WD.b 1 (some 57) (.int .i64 t57) h_71 (z15 (P:=Tryd.prog) (h:=h_71) (t:=3) (by kernel_rfl) e74) ?_;refine WD.a 0 (some 58) t0 h_71 ?_;obtain⟨t59,e76,hF⟩:=z4 hF;refine WD.b 0 (some 59) t59 h_71 (z2c (h:=h_71) e76) ?_;obtain⟨t60,e77,hF⟩:=z4 hF;refine WD.b 0 (some 60) t60 h_71 (z1b (P:=Tryd.prog) (h:=h_71) (s:=49) (f:=2) (by kernel_rfl) e77) ?_
      replace hF:=z4 hF;obtain⟨v61,e78,hF⟩:=hF
      replace hF:=z4 hF;obtain⟨t61,c79,hF⟩:=hF
      have c79:=z1a c79;subst c79;refine WD.b 1 (some 61) (.int .i64 t61) h_71 (z15 (P:=Tryd.prog) (h:=h_71) (t:=3) (by kernel_rfl) e78) ?_;obtain⟨t62,e80,hF⟩:=zc hF;refine WD.val (d:=(some 62)) (v:=.int .i64 t62) (h':=h_71) (by kernel_rfl) (by kernel_rfl) (z107 (AV.int .i64) e80 (by kernel_rfl)) (k:=0) (by kernel_rfl) (fun e=>absurd e (by decide)) (by decide) ?_;refine WD.a 0 (some 63) (AV.ptr (AHeap.next h_33) 2) h_71 ?_;obtain⟨h_81,e82,hF⟩:=z4 hF;refine WD.eff (h':=h_81) (by kernel_rfl) (by kernel_rfl) (Eq.trans (by kernel_rfl) (z3d (P:=Tryd.prog) (h:=h_71) (t:=3) (v:=(.int .i64 t62)) (by kernel_rfl) (by kernel_rfl) e82)) (k:=2) (by kernel_rfl) (fun _=>(by kernel_rfl)) (by decide) ?_;refine WD.nil ?_;refine gW [(0,t0),(5,(z7 h)),(7,.int .i64 t16),(9,(z7 h_33))] (n73 ?_);refine oG fun n83=>W.r ?_;refine oA 64 t0 ?_;refine oC hc (some 65) hF fun r65 h_84 hF=>?_;refine oV [(5,(z7 h)),(7,.int .i64 t16),(9,(z7 h_33))] (n83 ?_);refine oG fun n86=>?_;refine y1e (by kernel_rfl) (hc.ok w0) (plan:=[0,1,2,3,4,5]) (by kernel_rfl) (by kernel_rfl) (by kernel_rfl) ?_;refine WD.a 0 (some 66) (.int .i64 t16) h_84 ?_;obtain⟨t67,e87,hF⟩:=zc hF;refine WD.val (d:=(some 67)) (v:=.int .i64 t67) (h':=h_84) (by kernel_rfl) (by kernel_rfl) (z107 (AV.int .i64) e87 (by kernel_rfl)) (k:=0) (by kernel_rfl) (fun e=>absurd e (by decide)) (by decide) ?_;obtain⟨t68,e88,hF⟩:=z4 hF;refine WD.b 1 (some 68) (.agg t68) h_84 (zc6 (P:=Tryd.prog) (h:=h_84) (t:=26) (by kernel_rfl) (by kernel_rfl) e88) ?_;refine WD.a 0 (some 4) (.int .i64 t67) h_84 ?_;obtain⟨h_89,e90,hF⟩:=z4 hF;refine WD.eff (h':=h_89) (by kernel_rfl) (by kernel_rfl) (Eq.trans (by kernel_rfl) (z3d (P:=Tryd.prog) (h:=h_84) (t:=26) (v:=(.agg t68)) (by kernel_rfl) (by kernel_rfl) e90)) (k:=2) (by kernel_rfl) (fun _=>(by kernel_rfl)) (by decide) ?_;refine WD.a 0 (some 6) (.bool true) h_89 ?_;refine WD.nil ?_;refine gW [(4,.int .i64 t67),(5,(z7 h)),(6,.bool true)] (n86 (oY (q29 (q28 (q23 (q15 (q13 ?_)))))));obtain⟨w5_92,e91,hF⟩:=z4 hF;exact lZ hF [.tmp 4,.cell 5 26,.tmp 6] [.int .i64 t67,.agg w5_92,.bool true] (rT (rY e91 (rT zf)))
     |false=>
      refine oU hF fun hF=>?_;refine oZ (n29 (n28 (W.r ?_)));refine oI 69 .i64 hF fun t69 hF=>?_;refine oA 16 (.int .i64 t69) ?_;refine oV [(0,t0),(1,z19 t1),(5,(z7 h)),(15,.int .i64 (z15b t1)),(16,.int .i64 t69)] (n23 ?_);exact gW _ (ih23 _ _ hF)
    |false=>
     refine oU hF fun hF=>?_;refine W.exit (by kernel_rfl) ?_;refine e27 (e23 ?_);refine s15 (by kernel_rfl) ?_;exact gW _ (J16 _ hF)
  exact gW _ (L23 _ _ _ hF)
noncomputable def z6c(call:zd)(t0:AV)(t54:Int)(k60:AHeap→R)(self:Int→AHeap→R)(t55:Int)(h_63:AHeap):R:=lett (decide (t55<t54)) fun (t56:Bool)=>ifB t56 (obind (z74 t0) fun t59=>obind (z4d 0 t59) fun t60=>obind (z9 h_63 t60) fun v61=>obind (z1a6 2 v61 t55) fun t63=>obind (z74 t0) fun t65=>obind (z4d 2 t65) fun t66=>obind (z9 h_63 t66) fun v67=>obind (avInt .i64 v67) fun t67=>callN (call 19 [t63,.int .i64 t67] h_63) fun _ h_78=>lett (IntKind.i64.wrap (t55+1)) fun (t69:Int)=>self t69 h_78) (k60 h_63)
noncomputable def z7a(call:zd)(t0:AV)(t54:Int)(k60:AHeap→R):Nat→Int→AHeap→R:=z103 (fun _ _=>none) (z6c call t0 t54 k60)
theorem zc3(call:zd)(t0:AV)(t54:Int)(k60:AHeap→R)(m:Nat):z7a call t0 t54 k60 (m+1)=z6c call t0 t54 k60 (z7a call t0 t54 k60 m):=rfl
noncomputable def z80(call:zd)(n:Nat)(t0:AV)(t1:Int)(h:AHeap):R:=obind (z74 t0) fun t6=>obind (z4d 1 t6) fun t7=>obind (z9 h t7) fun v8=>obind (z153 v8) fun t9=>lett (decide (t9<256)) fun (t10:Bool)=>ifB t10 (obind (z74 t0) fun t13=>obind (z4d 1 t13) fun t14=>obind (z9 h t14) fun v15=>outK (zdb Tryd.prog h 47 1 [(0,.int .u8 t1)]) fun v17 h_12=>outK (z4b Tryd.prog h_12 47 47 v15 v17) fun v18 h_14=>obind (z74 t0) fun t19=>obind (z4d 1 t19) fun t20=>obind (z17 h_14 1 (AV.cells v18) t20) fun h_18=>some (.ret (.tup []),h_18)) (obind (z74 t0) fun t22=>obind (z4d 1 t22) fun t23=>obind (z9 h t23) fun v24=>obind (z74 t0) fun t26=>obind (z4d 1 t26) fun t27=>obind (z9 h t27) fun v28=>outK (zbc Tryd.prog h 47 v28 (some (.int .i64 1)) none) fun v29 h_27=>outK (z201 Tryd.prog h_27 47 v24 v29) fun v30 h_29=>obind (avInt .i64 v30) fun _=>obind (z74 t0) fun t32=>obind (z4d 1 t32) fun t33=>obind (z9 h_29 t33) fun v34=>obind (z74 t0) fun t36=>obind (z4d 1 t36) fun t37=>obind (z9 h_29 t37) fun v38=>obind (z153 v38) fun t39=>lett (IntKind.i64.wrap (t39 - 1)) fun (t40:Int)=>obind (z1a6 1 v34 t40) fun t42=>obind (z17 h_29 1 [.int .u8 t1] t42) fun h_42=>obind (z74 t0) fun t44=>obind (z4d 2 t44) fun t45=>obind (z9 h_42 t45) fun v46=>obind (avInt .i64 v46) fun t46=>lett (IntKind.i64.wrap (t46+1)) fun (t47:Int)=>obind (z74 t0) fun t48=>obind (z4d 2 t48) fun t49=>obind (z17 h_42 1 [.int .i64 t47] t49) fun h_52=>obind (z74 t0) fun t51=>obind (z4d 0 t51) fun t52=>obind (z9 h_52 t52) fun v53=>obind (z153 v53) fun t54=>lett (fun (h_61:AHeap)=>some (.ret (.tup []),h_61)) fun k60=>z7a call t0 t54 k60 n 0 h_52)
set_option maxHeartbeats 4000000 in
set_option maxRecDepth 20000 in
theorem z1d5{call:zd}(hc:SaysAll Tryd.prog call){n:Nat}{t0:AV}{t1:Int}{h:AHeap}{rR:ARes}{hR:AHeap}(hF:z80 call n t0 t1 h=some (rR,hR)):Says Tryd.prog 13 [t0,.int .u8 t1] h rR hR:=by
 unfold z80 at hF;refine sO Tryd.func13 fun w0 m0=>?_;refine wW [(0,t0),(1,.int .u8 t1)] ?_;refine oH fun n1 q1=>?_;refine oG fun n2=>W.r ?_;refine oA 5 t0 ?_;refine oC0 6 hF fun t6 hF=>?_;refine oF 7 49 1 hF fun t7 hF=>?_;refine oL 8 47 hF fun v8 hF=>?_;refine oM 9 47 5 hF fun t9 hF=>?_;refine oB 10 hF fun t10 hF=>?_;refine oV [(0,t0),(1,.int .u8 t1),(10,.bool t10)] (n2 ?_)
 cases t10 with
 |true=>
  refine oT hF fun hF=>?_;refine oG fun n8=>W.r ?_;refine oA 11 t0 ?_;refine oA 12 t0 ?_;refine oC0 13 hF fun t13 hF=>?_;refine oF 14 49 1 hF fun t14 hF=>?_;refine oL 15 47 hF fun v15 hF=>?_;refine oA 16 (.int .u8 t1) ?_;refine oK 17 hF fun v17 h_12 hF=>?_;refine oK 18 hF fun v18 h_14 hF=>?_;refine oC0 19 hF fun t19 hF=>?_;refine oF 20 49 1 hF fun t20 hF=>?_;refine oW 47 v18 hF fun h_18 hF=>?_;refine oV [] (n8 (oY (q1 ?_)));exact lZ hF [] [] zf
 |false=>
  refine oU hF fun hF=>?_;refine oZ (n1 ?_);refine oG fun n20=>?_;refine y1e (by kernel_rfl) (hc.ok w0) (plan:=[0,1,2,3,4,5,6,7,8,9]) (by kernel_rfl) (by kernel_rfl) (by kernel_rfl) ?_;refine WD.a 0 (some 21) t0 h ?_;obtain⟨t22,e21,hF⟩:=z4 hF;refine WD.b 0 (some 22) t22 h (z2c (h:=h) e21) ?_;obtain⟨t23,e22,hF⟩:=z4 hF;refine WD.b 0 (some 23) t23 h (z1b (P:=Tryd.prog) (h:=h) (s:=49) (f:=1) (by kernel_rfl) e22) ?_;obtain⟨v24,e23,hF⟩:=z4 hF;refine WD.b 1 (some 24) v24 h (z15 (P:=Tryd.prog) (h:=h) (t:=47) (by kernel_rfl) e23) ?_;refine WD.a 0 (some 25) t0 h ?_;obtain⟨t26,e24,hF⟩:=z4 hF;refine WD.b 0 (some 26) t26 h (z2c (h:=h) e24) ?_;obtain⟨t27,e25,hF⟩:=z4 hF;refine WD.b 0 (some 27) t27 h (z1b (P:=Tryd.prog) (h:=h) (s:=49) (f:=1) (by kernel_rfl) e25) ?_;obtain⟨v28,e26,hF⟩:=z4 hF;refine WD.b 1 (some 28) v28 h (z15 (P:=Tryd.prog) (h:=h) (t:=47) (by kernel_rfl) e26) ?_;obtain⟨v29,h_27,e28,hF⟩:=z27 hF;refine WD.b 0 (some 29) v29 h_27 e28 ?_
  replace hF:=z27 hF;obtain⟨v30,h_29,e30,hF⟩:=hF
  replace hF:=z4 hF;obtain⟨t30,c31,hF⟩:=hF
  have c31:=z1a c31;subst c31;refine WD.val (d:=(some 30)) (v:=.int .i64 t30) (h':=h_29) (by kernel_rfl) (by kernel_rfl) (Eq.trans (by kernel_rfl) e30) (k:=2) (by kernel_rfl) (fun _=>(by kernel_rfl)) (by decide) ?_;refine WD.nil ?_;refine gW [(0,t0),(1,.int .u8 t1)] (n20 ?_);refine oG fun n32=>?_;refine y1e (by kernel_rfl) (hc.ok w0) (plan:=[0,1,2,3,4,5,6,7,8,9,10,11,12]) (by kernel_rfl) (by kernel_rfl) (by kernel_rfl) ?_;refine WD.a 0 (some 31) t0 h_29 ?_;obtain⟨t32,e33,hF⟩:=z4 hF;refine WD.b 0 (some 32) t32 h_29 (z2c (h:=h_29) e33) ?_;obtain⟨t33,e34,hF⟩:=z4 hF;refine WD.b 0 (some 33) t33 h_29 (z1b (P:=Tryd.prog) (h:=h_29) (s:=49) (f:=1) (by kernel_rfl) e34) ?_;obtain⟨v34,e35,hF⟩:=z4 hF;refine WD.b 1 (some 34) v34 h_29 (z15 (P:=Tryd.prog) (h:=h_29) (t:=47) (by kernel_rfl) e35) ?_;refine WD.a 0 (some 35) t0 h_29 ?_;obtain⟨t36,e36,hF⟩:=z4 hF;refine WD.b 0 (some 36) t36 h_29 (z2c (h:=h_29) e36) ?_;obtain⟨t37,e37,hF⟩:=z4 hF;refine WD.b 0 (some 37) t37 h_29 (z1b (P:=Tryd.prog) (h:=h_29) (s:=49) (f:=1) (by kernel_rfl) e37) ?_;obtain⟨v38,e38,hF⟩:=z4 hF;refine WD.b 1 (some 38) v38 h_29 (z15 (P:=Tryd.prog) (h:=h_29) (t:=47) (by kernel_rfl) e38) ?_;obtain⟨t39,e39,hF⟩:=z4 hF;refine WD.b 0 (some 39) (.int .i64 t39) h_29 (z3e9 (P:=Tryd.prog) (h:=h_29) (t:=47) (e':=5) (by kernel_rfl) e39) ?_;obtain⟨t40,e40,hF⟩:=zc hF;refine WD.val (d:=(some 40)) (v:=.int .i64 t40) (h':=h_29) (by kernel_rfl) (by kernel_rfl) (z107 (AV.int .i64) e40 (by kernel_rfl)) (k:=0) (by kernel_rfl) (fun e=>absurd e (by decide)) (by decide) ?_;refine WD.a 0 (some 41) (.int .u8 t1) h_29 ?_;obtain⟨t42,e41,hF⟩:=z4 hF;refine WD.b 0 (some 42) t42 h_29 (z18f (P:=Tryd.prog) (h:=h_29) (t:=47) (e':=5) (k:=.i64) (by kernel_rfl) (by kernel_rfl) (by kernel_rfl) e41) ?_;obtain⟨h_42,e43,hF⟩:=z4 hF;refine WD.eff (h':=h_42) (by kernel_rfl) (by kernel_rfl) (Eq.trans (by kernel_rfl) (z3d (P:=Tryd.prog) (h:=h_29) (t:=5) (v:=(.int .u8 t1)) (by kernel_rfl) (by kernel_rfl) e43)) (k:=2) (by kernel_rfl) (fun _=>(by kernel_rfl)) (by decide) ?_;refine WD.nil ?_;refine gW [(0,t0)] (n32 ?_);refine oG fun n44=>W.r ?_;refine oA 43 t0 ?_;refine oC0 44 hF fun t44 hF=>?_;refine oF 45 49 2 hF fun t45 hF=>?_;refine oLi 46 3 hF fun t46 hF=>?_;refine oI 47 .i64 hF fun t47 hF=>?_;refine oC0 48 hF fun t48 hF=>?_;refine oF 49 49 2 hF fun t49 hF=>?_;refine oW 3 (.int .i64 t47) hF fun h_52 hF=>?_;refine oV [(0,t0)] (n44 ?_);refine oG fun n54=>W.r ?_;refine oA 50 t0 ?_;refine oC0 51 hF fun t51 hF=>?_;refine oF 52 49 0 hF fun t52 hF=>?_;refine oL 53 46 hF fun v53 hF=>?_;refine oM 54 46 55 hF fun t54 hF=>?_;refine oA 55 (.int .i64 0) ?_;refine oV [(0,t0),(54,.int .i64 t54),(55,.int .i64 0)] (n54 ?_);obtain⟨k60,e60,hF⟩:=zc hF
  have J60:∀(h_61:AHeap),k60 h_61=some (rR,hR)→Go w0 m0 (Func.ntmps Tryd.f13) (Fin Tryd.prog Tryd.f13 w0 m0 rR hR .normal) [] [] h_61:=by
   intro h_61 hF;rw[e60] at hF;exact lY hF [] [] zf
  refine yd (by kernel_rfl) (fun K59 n59 s59 o59 q59 p59=>?_);refine y17 (by kernel_rfl) (fun I62 K62 b62 n62 e62 q62 p62=>?_)
  have L62:∀(m:Nat) (t55:Int) (h_63:AHeap),z7a call t0 t54 k60 m t55 h_63=some (rR,hR)→Go w0 m0 (Func.ntmps Tryd.f13) I62 [(0,t0),(54,.int .i64 t54),(55,.int .i64 t55)] [] h_63:=by
   intro m
   induction m with
   |zero=>intro t55 h_63 hF;cases hF
   |succ m ih62=>
    intro t55 h_63 hF;rw[zc3] at hF;unfold z6c at hF;refine b62 ?_;refine oG fun n64=>W.r ?_;refine oB 56 hF fun t56 hF=>?_;refine oV [(0,t0),(54,.int .i64 t54),(55,.int .i64 t55),(56,.bool t56)] (n64 ?_);refine W.s (fun K66 n66 e66 q66 p66=>?_)
    cases t56 with
    |true=>
     refine oT hF fun hF=>?_;refine oZ (n66 ?_);refine oG fun n67=>?_;refine yd (by kernel_rfl) (fun K68 n68 s68 o68 q68 p68=>?_);refine oG fun n69=>W.r ?_;refine oA 57 (.int .i64 t55) ?_;refine oA 4 (.int .i64 t55) ?_;refine oV [(0,t0),(4,.int .i64 t55),(54,.int .i64 t54),(55,.int .i64 t55)] (n69 ?_);refine y1e (by kernel_rfl) (hc.ok w0) (plan:=[0,1,2,3,4,5,6,7,8,9,10]) (by kernel_rfl) (by kernel_rfl) (by kernel_rfl) ?_;refine WD.a 0 (some 58) t0 h_63 ?_;obtain⟨t59,e70,hF⟩:=z4 hF;refine WD.b 0 (some 59) t59 h_63 (z2c (h:=h_63) e70) ?_;obtain⟨t60,e71,hF⟩:=z4 hF;refine WD.b 0 (some 60) t60 h_63 (z1b (P:=Tryd.prog) (h:=h_63) (s:=49) (f:=0) (by kernel_rfl) e71) ?_;obtain⟨v61,e72,hF⟩:=z4 hF;refine WD.b 1 (some 61) v61 h_63 (z15 (P:=Tryd.prog) (h:=h_63) (t:=46) (by kernel_rfl) e72) ?_;refine WD.a 0 (some 62) (.int .i64 t55) h_63 ?_;obtain⟨t63,e73,hF⟩:=z4 hF;refine WD.b 0 (some 63) t63 h_63 (z18f (P:=Tryd.prog) (h:=h_63) (t:=46) (e':=55) (k:=.i64) (by kernel_rfl) (by kernel_rfl) (by kernel_rfl) e73) ?_;refine WD.a 0 (some 64) t0 h_63 ?_;obtain⟨t65,e74,hF⟩:=z4 hF;refine WD.b 0 (some 65) t65 h_63 (z2c (h:=h_63) e74) ?_;obtain⟨t66,e75,hF⟩:=z4 hF;refine WD.b 0 (some 66) t66 h_63 (z1b (P:=Tryd.prog) (h:=h_63) (s:=49) (f:=2) (by kernel_rfl) e75) ?_
     replace hF:=z4 hF;obtain⟨v67,e76,hF⟩:=hF
     replace hF:=z4 hF;obtain⟨t67,c77,hF⟩:=hF
     have c77:=z1a c77;subst c77;refine WD.b 1 (some 67) (.int .i64 t67) h_63 (z15 (P:=Tryd.prog) (h:=h_63) (t:=3) (by kernel_rfl) e76) ?_;obtain⟨r68,h_78,e79,hF⟩:=z40 hF;refine WD.call (d:=(some 68)) (by kernel_rfl) (by kernel_rfl) (by kernel_rfl) e79 (k:=2) (by kernel_rfl) (fun _=>(by kernel_rfl)) (by decide) ?_;refine WD.nil ?_;refine gW [(0,t0),(54,.int .i64 t54),(55,.int .i64 t55)] (n68 (n67 (W.r ?_)));refine oI 69 .i64 hF fun t69 hF=>?_;refine oA 55 (.int .i64 t69) ?_;refine oV [(0,t0),(54,.int .i64 t54),(55,.int .i64 t69)] (n62 ?_);exact gW _ (ih62 _ _ hF)
    |false=>
     refine oU hF fun hF=>?_;refine W.exit (by kernel_rfl) ?_;refine e66 (e62 ?_);refine s59 (by kernel_rfl) ?_;exact gW _ (J60 _ hF)
  exact gW _ (L62 _ _ _ hF)
noncomputable def z61(call:zd)(t0:AV)(t18:Int)(k22:AHeap→R)(self:Int→AHeap→R)(t19:Int)(h_25:AHeap):R:=lett (decide (t19<t18)) fun (t20:Bool)=>ifB t20 (obind (z74 t0) fun t23=>obind (z4d 0 t23) fun t24=>obind (z9 h_25 t24) fun v25=>obind (z1a6 2 v25 t19) fun t27=>callN (call 21 [t27,.int .i64 0] h_25) fun _ h_36=>lett (IntKind.i64.wrap (t19+1)) fun (t29:Int)=>self t29 h_36) (k22 h_25)
noncomputable def z6d(call:zd)(t0:AV)(t18:Int)(k22:AHeap→R):Nat→Int→AHeap→R:=z103 (fun _ _=>none) (z61 call t0 t18 k22)
theorem zb8(call:zd)(t0:AV)(t18:Int)(k22:AHeap→R)(m:Nat):z6d call t0 t18 k22 (m+1)=z61 call t0 t18 k22 (z6d call t0 t18 k22 m):=rfl
noncomputable def z73(call:zd)(n:Nat)(t0:AV)(h:AHeap):R:=obind (z74 t0) fun t5=>obind (z4d 1 t5) fun t6=>obind (z9 h t6) fun v7=>outK (zbc Tryd.prog h 47 v7 none (some (.int .i64 0))) fun v8 h_5=>obind (z74 t0) fun t9=>obind (z4d 1 t9) fun t10=>obind (z17 h_5 1 (AV.cells v8) t10) fun h_9=>obind (z74 t0) fun t12=>obind (z4d 2 t12) fun t13=>obind (z17 h_9 1 [.int .i64 0] t13) fun h_14=>obind (z74 t0) fun t15=>obind (z4d 0 t15) fun t16=>obind (z9 h_14 t16) fun v17=>obind (z153 v17) fun t18=>lett (fun (h_23:AHeap)=>some (.ret (.tup []),h_23)) fun k22=>z6d call t0 t18 k22 n 0 h_14
set_option maxHeartbeats 4000000 in
set_option maxRecDepth 20000 in
theorem z1c3{call:zd}(hc:SaysAll Tryd.prog call){n:Nat}{t0:AV}{h:AHeap}{rR:ARes}{hR:AHeap}(hF:z73 call n t0 h=some (rR,hR)):Says Tryd.prog 15 [t0] h rR hR:=by
 unfold z73 at hF;refine sO Tryd.func15 fun w0 m0=>?_;refine wW [(0,t0)] ?_;refine oG fun n1=>W.r ?_;refine oA 3 t0 ?_;refine oA 4 t0 ?_;refine oC0 5 hF fun t5 hF=>?_;refine oF 6 49 1 hF fun t6 hF=>?_;refine oL 7 47 hF fun v7 hF=>?_;refine oK 8 hF fun v8 h_5 hF=>?_;refine oC0 9 hF fun t9 hF=>?_;refine oF 10 49 1 hF fun t10 hF=>?_;refine oW 47 v8 hF fun h_9 hF=>?_;refine oV [(0,t0)] (n1 ?_);refine oG fun n11=>W.r ?_;refine oA 11 t0 ?_;refine oC0 12 hF fun t12 hF=>?_;refine oF 13 49 2 hF fun t13 hF=>?_;refine oW 3 (.int .i64 0) hF fun h_14 hF=>?_;refine oV [(0,t0)] (n11 ?_);refine oG fun n16=>W.r ?_;refine oA 14 t0 ?_;refine oC0 15 hF fun t15 hF=>?_;refine oF 16 49 0 hF fun t16 hF=>?_;refine oL 17 46 hF fun v17 hF=>?_;refine oM 18 46 55 hF fun t18 hF=>?_;refine oA 19 (.int .i64 0) ?_;refine oV [(0,t0),(18,.int .i64 t18),(19,.int .i64 0)] (n16 ?_);obtain⟨k22,e22,hF⟩:=zc hF
 have J22:∀(h_23:AHeap),k22 h_23=some (rR,hR)→Go w0 m0 (Func.ntmps Tryd.f15) (Fin Tryd.prog Tryd.f15 w0 m0 rR hR .normal) [] [] h_23:=by
  intro h_23 hF;rw[e22] at hF;exact lY hF [] [] zf
 refine yd (by kernel_rfl) (fun K21 n21 s21 o21 q21 p21=>?_);refine y17 (by kernel_rfl) (fun I24 K24 b24 n24 e24 q24 p24=>?_)
 have L24:∀(m:Nat) (t19:Int) (h_25:AHeap),z6d call t0 t18 k22 m t19 h_25=some (rR,hR)→Go w0 m0 (Func.ntmps Tryd.f15) I24 [(0,t0),(18,.int .i64 t18),(19,.int .i64 t19)] [] h_25:=by
  intro m
  induction m with
  |zero=>intro t19 h_25 hF;cases hF
  |succ m ih24=>
   intro t19 h_25 hF;rw[zb8] at hF;unfold z61 at hF;refine b24 ?_;refine oG fun n26=>W.r ?_;refine oB 20 hF fun t20 hF=>?_;refine oV [(0,t0),(18,.int .i64 t18),(19,.int .i64 t19),(20,.bool t20)] (n26 ?_);refine W.s (fun K28 n28 e28 q28 p28=>?_)
   cases t20 with
   |true=>
    refine oT hF fun hF=>?_;refine oZ (n28 ?_);refine oG fun n29=>?_;refine yd (by kernel_rfl) (fun K30 n30 s30 o30 q30 p30=>?_);refine oG fun n31=>W.r ?_;refine oA 21 (.int .i64 t19) ?_;refine oA 2 (.int .i64 t19) ?_;refine oV [(0,t0),(2,.int .i64 t19),(18,.int .i64 t18),(19,.int .i64 t19)] (n31 (W.r ?_));refine oA 22 t0 ?_;refine oC0 23 hF fun t23 hF=>?_;refine oF 24 49 0 hF fun t24 hF=>?_;refine oL 25 46 hF fun v25 hF=>?_;refine oA 26 (.int .i64 t19) ?_;refine oP 27 46 55 .i64 hF fun t27 hF=>?_;refine oC hc (some 28) hF fun r28 h_36 hF=>?_;refine oV [(0,t0),(18,.int .i64 t18),(19,.int .i64 t19)] (n30 (n29 (W.r ?_)));refine oI 29 .i64 hF fun t29 hF=>?_;refine oA 19 (.int .i64 t29) ?_;refine oV [(0,t0),(18,.int .i64 t18),(19,.int .i64 t29)] (n24 ?_);exact gW _ (ih24 _ _ hF)
   |false=>
    refine oU hF fun hF=>?_;refine W.exit (by kernel_rfl) ?_;refine e28 (e24 ?_);refine s21 (by kernel_rfl) ?_;exact gW _ (J22 _ hF)
 exact gW _ (L24 _ _ _ hF)
noncomputable def z68(t0:AV)(t1:Int)(k4:Int→AHeap→R)(self:Int→AHeap→R)(t4_20:Int)(h_21:AHeap):R:=obind (z74 t0) fun t7=>obind (z4d 1 t7) fun t8=>obind (z9 h_21 t8) fun v9=>obind (z153 v9) fun t10=>lett (decide (t4_20<t10)) fun (t11:Bool)=>lett (fun (t23:Bool) (h_29:AHeap)=>ifB t23 (lett (IntKind.i64.wrap (t4_20+1)) fun (t25:Int)=>self t25 h_29) (k4 t4_20 h_29)) fun j23=>ifB t11 (obind (z74 t0) fun t14=>obind (z4d 1 t14) fun t15=>obind (z9 h_21 t15) fun v16=>obind (z1a6 2 v16 t4_20) fun t18=>obind (z4d 1 t18) fun t19=>obind (z9 h_21 t19) fun v20=>obind (avInt .i64 v20) fun t20=>lett (decide (t20<t1)) fun (t22:Bool)=>j23 t22 h_21) (j23 false h_21)
noncomputable def z97(t0:AV)(t1:Int)(k4:Int→AHeap→R):Nat→Int→AHeap→R:=z103 (fun _ _=>none) (z68 t0 t1 k4)
theorem za5(t0:AV)(t1:Int)(k4:Int→AHeap→R)(m:Nat):z97 t0 t1 k4 (m+1)=z68 t0 t1 k4 (z97 t0 t1 k4 m):=rfl
noncomputable def z9f(call:zd)(n:Nat)(t0:AV)(t1:Int)(h:AHeap):R:=lett (fun (t4:Int) (h_5:AHeap)=>obind (z74 t0) fun t28=>obind (z4d 1 t28) fun t29=>obind (z9 h_5 t29) fun v30=>obind (z74 t0) fun t32=>obind (z4d 1 t32) fun t33=>obind (z9 h_5 t33) fun v34=>outK (zbc Tryd.prog h_5 53 v34 (some (.int .i64 t4)) none) fun v36 h_12=>outK (z201 Tryd.prog h_12 53 v30 v36) fun v37 h_14=>obind (avInt .i64 v37) fun t37=>callN (call 21 [t0,.int .i64 t37] h_14) fun _ h_17=>some (.ret (.tup []),h_17)) fun k4=>z97 t0 t1 k4 n 0 h
set_option maxHeartbeats 4000000 in
set_option maxRecDepth 20000 in
theorem z21d{call:zd}(hc:SaysAll Tryd.prog call){n:Nat}{t0:AV}{t1:Int}{h:AHeap}{rR:ARes}{hR:AHeap}(hF:z9f call n t0 t1 h=some (rR,hR)):Says Tryd.prog 19 [t0,.int .i64 t1] h rR hR:=by
 unfold z9f at hF;refine sO Tryd.func19 fun w0 m0=>?_;refine wW [(0,t0),(1,.int .i64 t1)] ?_;refine oG fun n1=>W.r ?_;refine oA 4 (.int .i64 0) ?_;refine oV [(0,t0),(1,.int .i64 t1),(4,.int .i64 0)] (n1 ?_);refine W.s (fun K2 n2 e2 q2 p2=>?_);obtain⟨k4,e4,hF⟩:=zc hF
 have J4:∀(t4:Int) (h_5:AHeap),k4 t4 h_5=some (rR,hR)→Go w0 m0 (Func.ntmps Tryd.f19) (K2 .normal) [(0,t0),(4,.int .i64 t4)] [] h_5:=by
  intro t4 h_5 hF;rw[e4] at hF;refine n2 ?_;refine y1e (by kernel_rfl) (hc.ok w0) (plan:=[0,1,2,3,4,5,6,7,8,9,10,11,12]) (by kernel_rfl) (by kernel_rfl) (by kernel_rfl) ?_;refine WD.a 0 (some 26) t0 h_5 ?_;refine WD.a 0 (some 27) t0 h_5 ?_;obtain⟨t28,e6,hF⟩:=z4 hF;refine WD.b 0 (some 28) t28 h_5 (z2c (h:=h_5) e6) ?_;obtain⟨t29,e7,hF⟩:=z4 hF;refine WD.b 0 (some 29) t29 h_5 (z1b (P:=Tryd.prog) (h:=h_5) (s:=55) (f:=1) (by kernel_rfl) e7) ?_;obtain⟨v30,e8,hF⟩:=z4 hF;refine WD.b 1 (some 30) v30 h_5 (z15 (P:=Tryd.prog) (h:=h_5) (t:=53) (by kernel_rfl) e8) ?_;refine WD.a 0 (some 31) t0 h_5 ?_;obtain⟨t32,e9,hF⟩:=z4 hF;refine WD.b 0 (some 32) t32 h_5 (z2c (h:=h_5) e9) ?_;obtain⟨t33,e10,hF⟩:=z4 hF;refine WD.b 0 (some 33) t33 h_5 (z1b (P:=Tryd.prog) (h:=h_5) (s:=55) (f:=1) (by kernel_rfl) e10) ?_;obtain⟨v34,e11,hF⟩:=z4 hF;refine WD.b 1 (some 34) v34 h_5 (z15 (P:=Tryd.prog) (h:=h_5) (t:=53) (by kernel_rfl) e11) ?_;refine WD.a 0 (some 35) (.int .i64 t4) h_5 ?_;obtain⟨v36,h_12,e13,hF⟩:=z27 hF;refine WD.b 0 (some 36) v36 h_12 e13 ?_
  replace hF:=z27 hF;obtain⟨v37,h_14,e15,hF⟩:=hF
  replace hF:=z4 hF;obtain⟨t37,c16,hF⟩:=hF
  have c16:=z1a c16;subst c16;refine WD.val (d:=(some 37)) (v:=.int .i64 t37) (h':=h_14) (by kernel_rfl) (by kernel_rfl) (Eq.trans (by kernel_rfl) e15) (k:=2) (by kernel_rfl) (fun _=>(by kernel_rfl)) (by decide) ?_;obtain⟨r38,h_17,e18,hF⟩:=z40 hF;refine WD.call (d:=(some 38)) (by kernel_rfl) (by kernel_rfl) (by kernel_rfl) e18 (k:=2) (by kernel_rfl) (fun _=>(by kernel_rfl)) (by decide) ?_;refine WD.nil ?_;refine gW [] ?_;exact lY hF [] [] zf
 refine yd (by kernel_rfl) (fun K3 n3 s3 o3 q3 p3=>?_);refine y17 (by kernel_rfl) (fun I19 K19 b19 n19 e19 q19 p19=>?_)
 have L19:∀(m:Nat) (t4_20:Int) (h_21:AHeap),z97 t0 t1 k4 m t4_20 h_21=some (rR,hR)→Go w0 m0 (Func.ntmps Tryd.f19) I19 [(0,t0),(1,.int .i64 t1),(4,.int .i64 t4_20)] [] h_21:=by
  intro m
  induction m with
  |zero=>intro t4_20 h_21 hF;cases hF
  |succ m ih19=>
   intro t4_20 h_21 hF;rw[za5] at hF;unfold z68 at hF;refine b19 ?_;refine W.s (fun K22 n22 e22 q22 p22=>?_);refine W.s (fun K23 n23 e23 q23 p23=>?_);refine W.r ?_;refine oA 5 (.int .i64 t4_20) ?_;refine oA 6 t0 ?_;refine oC0 7 hF fun t7 hF=>?_;refine oF 8 55 1 hF fun t8 hF=>?_;refine oL 9 53 hF fun v9 hF=>?_;refine oM 10 53 67 hF fun t10 hF=>?_;refine oB 11 hF fun t11 hF=>?_;refine oA 12 (.bool t11) ?_;obtain⟨j23,e30,hF⟩:=zc hF
   have J31:∀(t23:Bool) (h_29:AHeap),j23 t23 h_29=some (rR,hR)→WL Tryd.prog w0 m0 (Func.ntmps Tryd.f19) (Code.ops (y6 (y6 (y6 (y6 (y6 (y3 (z4e Tryd.f19)))))))) 19 K23 [(0,t0),(1,.int .i64 t1),(4,.int .i64 t4_20),(23,.bool t23)] [] h_29:=by
    intro t23 h_29 hF;rw[e30] at hF;refine oV [(0,t0),(1,.int .i64 t1),(4,.int .i64 t4_20),(23,.bool t23)] (n23 ?_)
    cases t23 with
    |true=>
     refine oT hF fun hF=>?_;refine oZ (n22 ?_);refine yd (by kernel_rfl) (fun K32 n32 s32 o32 q32 p32=>?_);refine W.r ?_;refine oA 24 (.int .i64 t4_20) ?_;refine oI 25 .i64 hF fun t25 hF=>?_;refine oA 4 (.int .i64 t25) ?_;refine oV [(0,t0),(1,.int .i64 t1),(4,.int .i64 t25)] (n32 (n19 ?_));exact gW _ (ih19 _ _ hF)
    |false=>
     refine oU hF fun hF=>?_;refine W.exit (by kernel_rfl) ?_;refine e22 (e19 ?_);refine s3 (by kernel_rfl) ?_;exact gW _ (J4 _ _ hF)
   cases t11 with
   |true=>
    replace hF:=zae hF
    refine oA 13 t0 ?_;refine oC0 14 hF fun t14 hF=>?_;refine oF 15 55 1 hF fun t15 hF=>?_;refine oL 16 53 hF fun v16 hF=>?_;refine oA 17 (.int .i64 t4_20) ?_;refine oP 18 53 67 .i64 hF fun t18 hF=>?_;refine oF 19 67 1 hF fun t19 hF=>?_;refine oLi 20 3 hF fun t20 hF=>?_;refine oA 21 (.int .i64 t1) ?_;refine oB 22 hF fun t22 hF=>?_;refine oA 23 (.bool t22) ?_;exact lW _ (J31 _ _ hF)
   |false=>
    replace hF:=zaf hF
    refine WL.o (some 13) ?_;refine WL.o (some 14) ?_;refine WL.o (some 15) ?_;refine WL.o (some 16) ?_;refine WL.o (some 17) ?_;refine WL.o (some 18) ?_;refine WL.o (some 19) ?_;refine WL.o (some 20) ?_;refine WL.o (some 21) ?_;refine WL.o (some 22) ?_;refine oA 23 (.bool false) ?_;exact lW _ (J31 _ _ hF)
 exact gW _ (L19 _ _ _ hF)
noncomputable def z48(_:zd)(_:Nat)(t0:AV)(h:AHeap):R:=outK (zc1 Tryd.prog h .eql 24 true (some t0) (some AV.nilp)) fun v4 h_4=>obind (z23 v4) fun t4=>ifB t4 (some (.ret (z19 ([]:z11)),h_4)) (obind (z74 t0) fun t6=>obind (z4d 1 t6) fun t7=>obind (z9 h_4 t7) fun v8=>outK (z1b2 Tryd.prog h_4 47 9 (some v8)) fun v9 h_12=>obind (z16f v9) fun t9=>some (.ret (z19 t9),h_12))
set_option maxHeartbeats 4000000 in
set_option maxRecDepth 20000 in
theorem z1a3{call:zd}(_:SaysAll Tryd.prog call){n:Nat}{t0:AV}{h:AHeap}{rR:ARes}{hR:AHeap}(hF:z48 call n t0 h=some (rR,hR)):Says Tryd.prog 6 [t0] h rR hR:=by
 unfold z48 at hF;refine sO Tryd.func6 fun w0 m0=>?_;refine wW [(0,t0)] ?_;refine oG fun n1=>W.r ?_;refine oA 2 (z19 ([]:z11)) ?_;refine oV [(0,t0)] (n1 ?_);refine oH fun n2 q2=>?_;refine oG fun n3=>W.r ?_;refine oA 3 t0 ?_
 replace hF:=z27 hF;obtain⟨v4,h_4,e5,hF⟩:=hF
 replace hF:=z4 hF;obtain⟨t4,c6,hF⟩:=hF
 have c6:=z34 c6;subst c6;refine WL.b (some 4) (.bool t4) h_4 e5 ?_;refine oV [(0,t0),(4,.bool t4)] (n3 ?_)
 cases t4 with
 |true=>
  refine oT hF fun hF=>?_;refine oG fun n7=>W.r ?_;refine oA 2 (z19 ([]:z11)) ?_;refine oV [(2,z19 ([]:z11))] (n7 (oY (q2 ?_)));exact lZ hF [.tmp 2] [z19 ([]:z11)] (rT zf)
 |false=>
  refine oU hF fun hF=>?_;refine oZ (n2 ?_);refine oG fun n8=>W.r ?_;refine oA 5 t0 ?_;refine oC0 6 hF fun t6 hF=>?_;refine oF 7 49 1 hF fun t7 hF=>?_;refine oL 8 47 hF fun v8 hF=>?_
  replace hF:=z27 hF;obtain⟨v9,h_12,e13,hF⟩:=hF
  replace hF:=z4 hF;obtain⟨t9,c14,hF⟩:=hF
  have c14:=z112 c14;subst c14;refine WL.b (some 9) (z19 t9) h_12 e13 ?_;refine oA 2 (z19 t9) ?_;refine oV [(2,z19 t9)] (n8 (oY ?_));exact lZ hF [.tmp 2] [z19 t9] (rT zf)
noncomputable def z15a(_:zd)(_:Nat)(t0:z11)(h:AHeap):R:=
 lett (IntKind.i64.wrap ((z15b t0) - 256)) fun (t6:Int)=>
 lett (if t6>0 then t6 else 0) fun (t7:Int)=>
 obind (z309 t0 t7 (z15b t0)) fun t8=>
 some (.ret (z19 t8),h)
set_option maxHeartbeats 4000000 in
set_option maxRecDepth 20000 in
theorem z34e{call:zd}(_:SaysAll Tryd.prog call){n:Nat}{t0:z11}{h:AHeap}{rR:ARes}{hR:AHeap}(hF:z15a call n t0 h=some (rR,hR)):Says Tryd.prog 12 [z19 t0] h rR hR:=by
 unfold z15a at hF;refine sO Tryd.func12 fun w0 m0=>?_;refine wW [(0,z19 t0)] ?_;refine oG fun n1=>W.r ?_;refine oA 2 (z19 ([]:z11)) ?_;refine oV [(0,z19 t0)] (n1 ?_);refine oG fun n2=>W.r ?_;refine oA 3 (z19 t0) ?_;refine oA 4 (z19 t0) ?_;refine oA 5 (.int .i64 (z15b t0)) ?_;refine oI 6 .i64 hF fun t6 hF=>?_;refine oI 7 .i64 hF fun t7 hF=>?_;obtain⟨t8,e5,hF⟩:=z4 hF;refine WL.b (some 8) (z19 t8) h (z37a (P:=Tryd.prog) (h:=h) (t:=9) (A:=(some (.int .i64 t7))) (B:=none) (by kernel_rfl) (.inl ⟨_,rfl⟩) (.inr ⟨rfl,rfl⟩) e5) ?_;refine oA 2 (z19 t8) ?_;refine oV [(2,z19 t8)] (n2 (oY ?_));exact lZ hF [.tmp 2] [z19 t8] (rT zf)
noncomputable def z102(call:zd)(_:Nat)(h:AHeap):R:=outK (zdb Tryd.prog h 22 2 [(0,.agg ([.int .i64 1,z19 ([98]:z11)]:List AV)),(1,.agg ([.int .i64 3,z19 ([97,43]:z11)]:List AV))]) fun v11 h_3=>callN (call 8 [v11] h_3) fun r14 h_6=>obind (z12b 0 r14) fun v15=>obind (z12b 1 r14) fun v16=>obind (avInt .i64 v16) fun t16=>lett ((t16:Int) != 0) fun (t18:Bool)=>lett (fun (t22:Bool) (h_14:AHeap)=>ifB t22 (some (.ret (.bool false),h_14)) (callN (call 11 [v11,z19 ([120,97,98]:z11)] h_14) fun r25 h_19=>obind (z12b 0 r25) fun v26=>obind (z75 v26) fun t26=>obind (z12b 1 r25) fun v27=>obind (z23 v27) fun t27=>lett (newH h_19 26 [.int .i64 0,.int .i64 0,.int .i64 0]) fun h_25=>obind (z17 h_25 3 t26 (z7 h_19)) fun h_27=>callN (call 5 [v15,z19 ([120,97,98]:z11)] h_27) fun r30 h_30=>obind (z12b 0 r30) fun v31=>obind (avInt .i64 v31) fun t31=>obind (z12b 1 r30) fun v32=>obind (z75 v32) fun t32=>obind (z12b 2 r30) fun v33=>obind (z23 v33) fun t33=>lett (newH h_30 26 [.int .i64 0,.int .i64 0,.int .i64 0]) fun h_38=>obind (z17 h_38 3 t32 (z7 h_30)) fun h_40=>obind (z18 h_40 3 (z7 h_19)) fun t34=>obind (zab Tryd.prog 26 (.agg t34) (.agg ([.int .i64 1,.int .i64 1,.int .i64 2]:List AV))) fun t36=>lett (fun (t39:Bool) (h_45:AHeap)=>lett (fun (t43:Bool) (h_48:AHeap)=>lett (fun (t48:Bool) (h_51:AHeap)=>lett (fun (t51:Bool) (h_54:AHeap)=>lett (fun (t55:Bool) (h_57:AHeap)=>some (.ret (.bool t55),h_57)) fun j55=>ifB t51 (callN (call 12 [z19 ([97]:z11)] h_54) fun r53 h_60=>obind (z16f r53) fun t53=>lett (eqS t53 ([97]:z11)) fun (t54:Bool)=>j55 t54 h_60) (j55 false h_54)) fun j51=>ifB t48 (j51 t33 h_51) (j51 false h_51)) fun j48=>ifB t43 (obind (z18 h_48 3 (z7 h_30)) fun t45=>obind (z18 h_48 3 (z7 h_19)) fun t46=>obind (zab Tryd.prog 26 (.agg t45) (.agg t46)) fun t47=>j48 t47 h_48) (j48 false h_48)) fun j43=>ifB t39 (lett ((t31:Int) == 2) fun (t42:Bool)=>j43 t42 h_45) (j43 false h_45)) fun j39=>ifB t36 (j39 t27 h_40) (j39 false h_40))) fun j22=>ifB t18 (j22 true h_6) (outK (zc1 Tryd.prog h_6 .eql 24 true (some v15) (some AV.nilp)) fun v21 h_68=>obind (z23 v21) fun t21=>j22 t21 h_68)
set_option maxHeartbeats 4000000 in
set_option maxRecDepth 20000 in
theorem z2f8{call:zd}(hc:SaysAll Tryd.prog call){n:Nat}{h:AHeap}{rR:ARes}{hR:AHeap}(hF:z102 call n h=some (rR,hR)):Says Tryd.prog 4 [] h rR hR:=by
 unfold z102 at hF;refine sO Tryd.func4 fun w0 m0=>?_;refine wW [] ?_;refine oG fun n1=>W.r ?_;refine oA 0 (.bool false) ?_;refine oV [] (n1 ?_);refine oG fun n2=>W.r ?_;refine oA 9 (.agg ([.int .i64 1,z19 ([98]:z11)]:List AV)) ?_;refine oA 10 (.agg ([.int .i64 3,z19 ([97,43]:z11)]:List AV)) ?_;refine oK 11 hF fun v11 h_3 hF=>?_;refine oA 1 v11 ?_;refine oV [(1,v11)] (n2 ?_);refine oG fun n5=>W.r ?_;refine oA 13 v11 ?_;refine oC hc (some 14) hF fun r14 h_6 hF=>?_;refine oA 12 r14 ?_;refine oE 15 hF fun v15 hF=>?_;refine oEi 16 hF fun t16 hF=>?_;refine oA 2 v15 ?_;refine oA 3 (.int .i64 t16) ?_;refine oV [(1,v11),(2,v15),(3,.int .i64 t16)] (n5 ?_);refine oH fun n11 q11=>?_;refine W.s (fun K12 n12 e12 q12 p12=>?_);refine W.r ?_;refine oA 17 (.int .i64 t16) ?_;refine oB 18 hF fun t18 hF=>?_;refine oA 19 (.bool t18) ?_;obtain⟨j22,e15,hF⟩:=zc hF
 have J16:∀(t22:Bool) (h_14:AHeap),j22 t22 h_14=some (rR,hR)→WL Tryd.prog w0 m0 (Func.ntmps Tryd.f4) (Code.ops (y6 (y6 (y3 (y3 (y3 (z4e Tryd.f4))))))) 6 K12 [(1,v11),(2,v15),(22,.bool t22)] [] h_14:=by
  intro t22 h_14 hF;rw[e15] at hF;refine oV [(1,v11),(2,v15),(22,.bool t22)] (n12 ?_)
  cases t22 with
  |true=>
   refine oT hF fun hF=>?_;refine oG fun n17=>W.r ?_;refine oA 0 (.bool false) ?_;refine oV [(0,.bool false)] (n17 (oY (q11 ?_)));exact lZ hF [.tmp 0] [.bool false] (rT zf)
  |false=>
   refine oU hF fun hF=>?_;refine oZ (n11 ?_);refine oG fun n18=>W.r ?_;refine oA 24 v11 ?_;refine oC hc (some 25) hF fun r25 h_19 hF=>?_;refine oA 23 r25 ?_;refine oEa 26 hF fun t26 hF=>?_;refine oEb 27 hF fun t27 hF=>?_;refine oN 4 hF fun h_25 hF=>?_;refine oW 26 (.agg t26) hF fun h_27 hF=>?_;refine oA 5 (.bool t27) ?_;refine oV [(2,v15),(4,(z7 h_19)),(5,.bool t27)] (n18 ?_);refine oG fun n29=>W.r ?_;refine oA 29 v15 ?_;refine oC hc (some 30) hF fun r30 h_30 hF=>?_;refine oA 28 r30 ?_;refine oEi 31 hF fun t31 hF=>?_;refine oEa 32 hF fun t32 hF=>?_;refine oEb 33 hF fun t33 hF=>?_;refine oN 7 hF fun h_38 hF=>?_;refine oA 6 (.int .i64 t31) ?_;refine oW 26 (.agg t32) hF fun h_40 hF=>?_;refine oA 8 (.bool t33) ?_;refine oV [(4,(z7 h_19)),(5,.bool t27),(6,.int .i64 t31),(7,(z7 h_30)),(8,.bool t33)] (n29 ?_);refine W.s (fun K42 n42 e42 q42 p42=>?_);refine W.r ?_;refine oR 34 26 hF fun t34 hF=>?_;refine oA 35 (.agg ([.int .i64 1,.int .i64 1,.int .i64 2]:List AV)) ?_;obtain⟨t36,e44,hF⟩:=z4 hF;refine WL.b (some 36) (.bool t36) h_40 (z42f (P:=Tryd.prog) (h:=h_40) (t:=26) (lit:=false) (by kernel_rfl) e44) ?_;refine oA 37 (.bool t36) ?_;obtain⟨j39,e46,hF⟩:=zc hF
   have J47:∀(t39:Bool) (h_45:AHeap),j39 t39 h_45=some (rR,hR)→WL Tryd.prog w0 m0 (Func.ntmps Tryd.f4) (Code.ops (y6 (y3 (y3 (y3 (y3 (y3 (y3 (z4e Tryd.f4))))))))) 6 K42 [(4,(z7 h_19)),(6,.int .i64 t31),(7,(z7 h_30)),(8,.bool t33),(39,.bool t39)] [] h_45:=by
    intro t39 h_45 hF;rw[e46] at hF;refine oA 40 (.bool t39) ?_;obtain⟨j43,e49,hF⟩:=zc hF
    have J50:∀(t43:Bool) (h_48:AHeap),j43 t43 h_48=some (rR,hR)→WL Tryd.prog w0 m0 (Func.ntmps Tryd.f4) (Code.ops (y6 (y3 (y3 (y3 (y3 (y3 (y3 (z4e Tryd.f4))))))))) 10 K42 [(4,(z7 h_19)),(7,(z7 h_30)),(8,.bool t33),(43,.bool t43)] [] h_48:=by
     intro t43 h_48 hF;rw[e49] at hF;refine oA 44 (.bool t43) ?_;obtain⟨j48,e52,hF⟩:=zc hF
     have J53:∀(t48:Bool) (h_51:AHeap),j48 t48 h_51=some (rR,hR)→WL Tryd.prog w0 m0 (Func.ntmps Tryd.f4) (Code.ops (y6 (y3 (y3 (y3 (y3 (y3 (y3 (z4e Tryd.f4))))))))) 15 K42 [(8,.bool t33),(48,.bool t48)] [] h_51:=by
      intro t48 h_51 hF;rw[e52] at hF;refine oA 49 (.bool t48) ?_;obtain⟨j51,e55,hF⟩:=zc hF
      have J56:∀(t51:Bool) (h_54:AHeap),j51 t51 h_54=some (rR,hR)→WL Tryd.prog w0 m0 (Func.ntmps Tryd.f4) (Code.ops (y6 (y3 (y3 (y3 (y3 (y3 (y3 (z4e Tryd.f4))))))))) 18 K42 [(51,.bool t51)] [] h_54:=by
       intro t51 h_54 hF;rw[e55] at hF;refine oA 52 (.bool t51) ?_;obtain⟨j55,e58,hF⟩:=zc hF
       have J59:∀(t55:Bool) (h_57:AHeap),j55 t55 h_57=some (rR,hR)→WL Tryd.prog w0 m0 (Func.ntmps Tryd.f4) (Code.ops (y6 (y3 (y3 (y3 (y3 (y3 (y3 (z4e Tryd.f4))))))))) 22 K42 [(55,.bool t55)] [] h_57:=by
        intro t55 h_57 hF;rw[e58] at hF;refine oA 0 (.bool t55) ?_;refine oV [(0,.bool t55)] (n42 (oY ?_));exact lZ hF [.tmp 0] [.bool t55] (rT zf)
       cases t51 with
       |true=>
        replace hF:=zae hF
        refine oCs hc 53 hF fun t53 h_60 hF=>?_;refine oB 54 hF fun t54 hF=>?_;refine oA 55 (.bool t54) ?_;exact lW _ (J59 _ _ hF)
       |false=>
        replace hF:=zaf hF
        refine WL.o (some 53) ?_;refine WL.o (some 54) ?_;refine oA 55 (.bool false) ?_;exact lW _ (J59 _ _ hF)
      cases t48 with
      |true=>
       replace hF:=zae hF
       refine oA 50 (.bool t33) ?_;refine oA 51 (.bool t33) ?_;exact lW _ (J56 _ _ hF)
      |false=>
       replace hF:=zaf hF
       refine WL.o (some 50) ?_;refine oA 51 (.bool false) ?_;exact lW _ (J56 _ _ hF)
     cases t43 with
     |true=>
      replace hF:=zae hF
      refine oR 45 26 hF fun t45 hF=>?_;refine oR 46 26 hF fun t46 hF=>?_;obtain⟨t47,e66,hF⟩:=z4 hF;refine WL.b (some 47) (.bool t47) h_48 (z42f (P:=Tryd.prog) (h:=h_48) (t:=26) (lit:=false) (by kernel_rfl) e66) ?_;refine oA 48 (.bool t47) ?_;exact lW _ (J53 _ _ hF)
     |false=>
      replace hF:=zaf hF
      refine WL.o (some 45) ?_;refine WL.o (some 46) ?_;refine WL.o (some 47) ?_;refine oA 48 (.bool false) ?_;exact lW _ (J53 _ _ hF)
    cases t39 with
    |true=>
     replace hF:=zae hF
     refine oA 41 (.int .i64 t31) ?_;refine oB 42 hF fun t42 hF=>?_;refine oA 43 (.bool t42) ?_;exact lW _ (J50 _ _ hF)
    |false=>
     replace hF:=zaf hF
     refine WL.o (some 41) ?_;refine WL.o (some 42) ?_;refine oA 43 (.bool false) ?_;exact lW _ (J50 _ _ hF)
   cases t36 with
   |true=>
    replace hF:=zae hF
    refine oA 38 (.bool t27) ?_;refine oA 39 (.bool t27) ?_;exact lW _ (J47 _ _ hF)
   |false=>
    replace hF:=zaf hF
    refine WL.o (some 38) ?_;refine oA 39 (.bool false) ?_;exact lW _ (J47 _ _ hF)
 cases t18 with
 |true=>
  replace hF:=zae hF
  refine WL.o (some 20) ?_;refine WL.o (some 21) ?_;refine oA 22 (.bool true) ?_;exact lW _ (J16 _ _ hF)
 |false=>
  replace hF:=zaf hF
  refine oA 20 v15 ?_
  replace hF:=z27 hF;obtain⟨v21,h_68,e69,hF⟩:=hF
  replace hF:=z4 hF;obtain⟨t21,c70,hF⟩:=hF
  have c70:=z34 c70;subst c70;refine WL.b (some 21) (.bool t21) h_68 e69 ?_;refine oA 22 (.bool t21) ?_;exact lW _ (J16 _ _ hF)
noncomputable def z6f(call:zd)(v18:AV)(v22:AV)(t23:Int)(k29:AHeap→R)(self:Int→AHeap→R)(t24:Int)(h_33:AHeap):R:=
 lett (decide (t24<t23)) fun (t25:Bool)=>
 ifB t25
 (
  obind (z1a6 2 v22 t24) fun t26=>
  obind (z18 h_33 2 t26) fun t27=>
  lett (newH h_33 55 [.nilp,.nsl]) fun h_42=>
  obind (z17 h_42 2 t27 (z7 h_33)) fun h_44=>
  obind (z74 v18) fun t30=>
  obind (z4d 0 t30) fun t31=>
  obind (z9 h_44 t31) fun v32=>
  callN (call 17 [(z7 h_33)] h_44) fun r33 h_49=>
  obind (z75 r33) fun t33=>
  chk (zf2 Tryd.prog h_49 46 t31 v32&&true)<|
  outK (zdb Tryd.prog h_49 46 1 [(0,.agg t33)]) fun v34 h_53=>
  chk (zf2 Tryd.prog h_53 46 t31 v32&&true)<|
  outK (z4b Tryd.prog h_53 46 46 v32 v34) fun v35 h_56=>
  obind (z74 v18) fun t36=>
  obind (z4d 0 t36) fun t37=>
  obind (z17 h_56 1 (AV.cells v35) t37) fun h_60=>
  lett (IntKind.i64.wrap (t24+1)) fun (t38:Int)=>
  self t38 h_60)
 (
  k29 h_33)
noncomputable def z7c(call:zd)(v18:AV)(v22:AV)(t23:Int)(k29:AHeap→R):Nat→Int→AHeap→R:=z103 (fun _ _=>none) (z6f call v18 v22 t23 k29)
theorem zc5(call:zd)(v18:AV)(v22:AV)(t23:Int)(k29:AHeap→R)(m:Nat):z7c call v18 v22 t23 k29 (m+1)=z6f call v18 v22 t23 k29 (z7c call v18 v22 t23 k29 m):=rfl
noncomputable def z63(call:zd)(n:Nat)(t0:AV)(h:AHeap):R:=
 outK (zc1 Tryd.prog h .eql 24 true (some t0) (some AV.nilp)) fun v7 h_4=>
 obind (z23 v7) fun t7=>
 ifB t7
 (
  some (.ret (AV.nilp),h_4))
 (
  obind (z74 t0) fun t9=>
  obind (z4d 1 t9) fun t10=>
  obind (z9 h_4 t10) fun v11=>
  obind (z74 t0) fun t14=>
  obind (z4d 2 t14) fun t15=>
  obind (z9 h_4 t15) fun v16=>
  obind (avInt .i64 v16) fun t16=>
  callN (call 16 [v11] h_4) fun r12 h_16=>
  chk (zf2 Tryd.prog h_16 3 t15 (.int .i64 t16)&&(true&&true))<|
  obind (z252 Tryd.prog 49 [(1,r12),(2,.int .i64 t16)]) fun t17=>
  outK (z116 h_16 49 (some (.agg t17))) fun v18 h_20=>
  obind (z74 t0) fun t20=>
  obind (z4d 0 t20) fun t21=>
  obind (z9 h_20 t21) fun v22=>
  obind (z153 v22) fun t23=>
  lett (fun (h_30:AHeap)=>
   some (.ret (v18),h_30)) fun k29=>
  z7c call v18 v22 t23 k29 n 0 h_20)
set_option maxHeartbeats 4000000 in
set_option maxRecDepth 20000 in
theorem z1d7{call:zd}(hc:SaysAll Tryd.prog call){n:Nat}{t0:AV}{h:AHeap}{rR:ARes}{hR:AHeap}(hF:z63 call n t0 h=some (rR,hR)):Says Tryd.prog 7 [t0] h rR hR:=by
 unfold z63 at hF;refine sO Tryd.func7 fun w0 m0=>?_;refine wW [(0,t0)] ?_;refine oG fun n1=>W.r ?_;refine oA 2 AV.nilp ?_;refine oV [(0,t0)] (n1 ?_);refine oH fun n2 q2=>?_;refine oG fun n3=>W.r ?_;refine oA 6 t0 ?_
 replace hF:=z27 hF;obtain⟨v7,h_4,e5,hF⟩:=hF
 replace hF:=z4 hF;obtain⟨t7,c6,hF⟩:=hF
 have c6:=z34 c6;subst c6;refine WL.b (some 7) (.bool t7) h_4 e5 ?_;refine oV [(0,t0),(7,.bool t7)] (n3 ?_)
 cases t7 with
 |true=>
  refine oT hF fun hF=>?_;refine oG fun n7=>W.r ?_;refine oA 2 AV.nilp ?_;refine oV [(2,AV.nilp)] (n7 (oY (q2 ?_)));exact lZ hF [.tmp 2] [AV.nilp] (rT zf)
 |false=>
  refine oU hF fun hF=>?_;refine oZ (n2 ?_);refine oG fun n8=>?_;refine y1e (by kernel_rfl) (hc.ok w0) (plan:=[0,1,2,3,5,6,7,8,4,9,10,11]) (by kernel_rfl) (by kernel_rfl) (by kernel_rfl) ?_;refine WD.a 0 (some 8) t0 h_4 ?_;obtain⟨t9,e9,hF⟩:=z4 hF;refine WD.b 0 (some 9) t9 h_4 (z2c (h:=h_4) e9) ?_;obtain⟨t10,e10,hF⟩:=z4 hF;refine WD.b 0 (some 10) t10 h_4 (z1b (P:=Tryd.prog) (h:=h_4) (s:=49) (f:=1) (by kernel_rfl) e10) ?_;obtain⟨v11,e11,hF⟩:=z4 hF;refine WD.b 1 (some 11) v11 h_4 (z15 (P:=Tryd.prog) (h:=h_4) (t:=47) (by kernel_rfl) e11) ?_;refine WD.a 0 (some 13) t0 h_4 ?_;obtain⟨t14,e12,hF⟩:=z4 hF;refine WD.b 0 (some 14) t14 h_4 (z2c (h:=h_4) e12) ?_;obtain⟨t15,e13,hF⟩:=z4 hF;refine WD.b 0 (some 15) t15 h_4 (z1b (P:=Tryd.prog) (h:=h_4) (s:=49) (f:=2) (by kernel_rfl) e13) ?_
  replace hF:=z4 hF;obtain⟨v16,e14,hF⟩:=hF
  replace hF:=z4 hF;obtain⟨t16,c15,hF⟩:=hF
  have c15:=z1a c15;subst c15;refine WD.b 1 (some 16) (.int .i64 t16) h_4 (z15 (P:=Tryd.prog) (h:=h_4) (t:=3) (by kernel_rfl) e14) ?_;obtain⟨r12,h_16,e17,hF⟩:=z40 hF;obtain⟨k18,hF⟩:=zef hF;refine WD.call (d:=(some 12)) (by kernel_rfl) (by kernel_rfl) (by kernel_rfl) e17 (k:=2) (by kernel_rfl) (fun _=>(Eq.trans (by kernel_rfl) k18)) (by decide) ?_;obtain⟨t17,e19,hF⟩:=z4 hF;refine WD.val (d:=(some 17)) (v:=.agg t17) (h':=h_16) (by kernel_rfl) (by kernel_rfl) (z1b7 (by kernel_rfl) e19) (k:=0) (by kernel_rfl) (fun e=>absurd e (by decide)) (by decide) ?_;obtain⟨v18,h_20,e21,hF⟩:=z27 hF;refine WD.b 1 (some 18) v18 h_20 e21 ?_;refine WD.a 0 (some 3) v18 h_20 ?_;refine WD.nil ?_;refine gW [(0,t0),(3,v18)] (n8 ?_);refine W.s (fun K22 n22 e22 q22 p22=>?_);refine oG fun n23=>W.r ?_;refine oA 19 t0 ?_;refine oC0 20 hF fun t20 hF=>?_;refine oF 21 49 0 hF fun t21 hF=>?_;refine oL 22 46 hF fun v22 hF=>?_;refine oM 23 46 55 hF fun t23 hF=>?_;refine oA 24 (.int .i64 0) ?_;refine oV [(3,v18),(22,v22),(23,.int .i64 t23),(24,.int .i64 0)] (n23 ?_);obtain⟨k29,e29,hF⟩:=zc hF
  have J29:∀(h_30:AHeap),k29 h_30=some (rR,hR)→Go w0 m0 (Func.ntmps Tryd.f7) (K22 .normal) [(3,v18)] [] h_30:=by
   intro h_30 hF;rw[e29] at hF;refine n22 ?_;refine oG fun n31=>W.r ?_;refine oA 39 v18 ?_;refine oA 2 v18 ?_;refine oV [(2,v18)] (n31 (oY ?_));exact lZ hF [.tmp 2] [v18] (rT zf)
  refine yd (by kernel_rfl) (fun K28 n28 s28 o28 q28 p28=>?_);refine y17 (by kernel_rfl) (fun I32 K32 b32 n32 e32 q32 p32=>?_)
  have L32:∀(m:Nat) (t24:Int) (h_33:AHeap),z7c call v18 v22 t23 k29 m t24 h_33=some (rR,hR)→Go w0 m0 (Func.ntmps Tryd.f7) I32 [(3,v18),(22,v22),(23,.int .i64 t23),(24,.int .i64 t24)] [] h_33:=by
   intro m
   induction m with
   |zero=>intro t24 h_33 hF;cases hF
   |succ m ih32=>
    intro t24 h_33 hF;rw[zc5] at hF;unfold z6f at hF;refine b32 ?_;refine oG fun n34=>W.r ?_;refine oB 25 hF fun t25 hF=>?_;refine oV [(3,v18),(22,v22),(23,.int .i64 t23),(24,.int .i64 t24),(25,.bool t25)] (n34 ?_);refine W.s (fun K36 n36 e36 q36 p36=>?_)
    cases t25 with
    |true=>
     refine oT hF fun hF=>?_;refine oZ (n36 ?_);refine oG fun n37=>?_;refine yd (by kernel_rfl) (fun K38 n38 s38 o38 q38 p38=>?_);refine oG fun n39=>W.r ?_;refine oP 26 46 55 .i64 hF fun t26 hF=>?_;refine oR 27 55 hF fun t27 hF=>?_;refine oN 5 hF fun h_42 hF=>?_;refine oW 55 (.agg t27) hF fun h_44 hF=>?_;refine oV [(3,v18),(5,(z7 h_33)),(22,v22),(23,.int .i64 t23),(24,.int .i64 t24)] (n39 ?_);refine y1e (by kernel_rfl) (hc.ok w0) (plan:=[0,1,2,3,4,5,6,7,8,9,10]) (by kernel_rfl) (by kernel_rfl) (by kernel_rfl) ?_;refine WD.a 0 (some 28) v18 h_44 ?_;refine WD.a 0 (some 29) v18 h_44 ?_;obtain⟨t30,e46,hF⟩:=z4 hF;refine WD.b 0 (some 30) t30 h_44 (z2c (h:=h_44) e46) ?_;obtain⟨t31,e47,hF⟩:=z4 hF;refine WD.b 0 (some 31) t31 h_44 (z1b (P:=Tryd.prog) (h:=h_44) (s:=49) (f:=0) (by kernel_rfl) e47) ?_;obtain⟨v32,e48,hF⟩:=z4 hF;refine WD.b 1 (some 32) v32 h_44 (z15 (P:=Tryd.prog) (h:=h_44) (t:=46) (by kernel_rfl) e48) ?_
     replace hF:=z40 hF;obtain⟨r33,h_49,e50,hF⟩:=hF
     replace hF:=z4 hF;obtain⟨t33,c51,hF⟩:=hF
     have c51:=z50 c51;subst c51;obtain⟨k52,hF⟩:=zef hF;refine WD.call (d:=(some 33)) (by kernel_rfl) (by kernel_rfl) (by kernel_rfl) e50 (k:=2) (by kernel_rfl) (fun _=>(Eq.trans (by kernel_rfl) k52)) (by decide) ?_;obtain⟨v34,h_53,e54,hF⟩:=z27 hF;obtain⟨k55,hF⟩:=zef hF;refine WD.val (d:=(some 34)) (v:=v34) (h':=h_53) (by kernel_rfl) (by kernel_rfl) (Eq.trans (by kernel_rfl) e54) (k:=2) (by kernel_rfl) (fun _=>(Eq.trans (by kernel_rfl) k55)) (by decide) ?_;obtain⟨v35,h_56,e57,hF⟩:=z27 hF;refine WD.val (d:=(some 35)) (v:=v35) (h':=h_56) (by kernel_rfl) (by kernel_rfl) (Eq.trans (by kernel_rfl) e57) (k:=2) (by kernel_rfl) (fun _=>(by kernel_rfl)) (by decide) ?_;obtain⟨t36,e58,hF⟩:=z4 hF;refine WD.b 0 (some 36) t36 h_56 (z2c (h:=h_56) e58) ?_;obtain⟨t37,e59,hF⟩:=z4 hF;refine WD.b 0 (some 37) t37 h_56 (z1b (P:=Tryd.prog) (h:=h_56) (s:=49) (f:=0) (by kernel_rfl) e59) ?_;obtain⟨h_60,e61,hF⟩:=z4 hF;refine WD.eff (h':=h_60) (by kernel_rfl) (by kernel_rfl) (Eq.trans (by kernel_rfl) (z3d (P:=Tryd.prog) (h:=h_56) (t:=46) (v:=v35) (by kernel_rfl) (by kernel_rfl) e61)) (k:=2) (by kernel_rfl) (fun _=>(by kernel_rfl)) (by decide) ?_;refine WD.nil ?_;refine gW [(3,v18),(22,v22),(23,.int .i64 t23),(24,.int .i64 t24)] (n38 (n37 (W.r ?_)));refine oI 38 .i64 hF fun t38 hF=>?_;refine oA 24 (.int .i64 t38) ?_;refine oV [(3,v18),(22,v22),(23,.int .i64 t23),(24,.int .i64 t38)] (n32 ?_);exact gW _ (ih32 _ _ hF)
    |false=>
     refine oU hF fun hF=>?_;refine W.exit (by kernel_rfl) ?_;refine e36 (e32 ?_);refine s28 (by kernel_rfl) ?_;exact gW _ (J29 _ hF)
  exact gW _ (L32 _ _ _ hF)
noncomputable def z5a(call:zd)(h_2:AHeap)(v14:AV)(t15:Int)(k20:AHeap→R)(self:Int→AHeap→R)(t16:Int)(h_28:AHeap):R:=
 lett (decide (t16<t15)) fun (t17:Bool)=>
 ifB t17
 (
  obind (z1a6 2 v14 t16) fun t18=>
  obind (z18 h_28 2 t18) fun t19=>
  lett (newH h_28 67 [.nilp,.int .i64 0]) fun h_37=>
  obind (z17 h_37 2 t19 (z7 h_28)) fun h_39=>
  obind (z9 h_39 (AV.ptr (AHeap.next h_2) 1)) fun v21=>
  obind (z9 h_39 (AV.ptr (AHeap.next h_28) 0)) fun v23=>
  obind (z9 h_39 (AV.ptr (AHeap.next h_28) 1)) fun v26=>
  obind (avInt .i64 v26) fun t26=>
  callN (call 22 [v23] h_39) fun r24 h_45=>
  chk (zf2 Tryd.prog h_45 3 (AV.ptr (AHeap.next h_28) 1) (.int .i64 t26)&&(true&&(zf2 Tryd.prog h_45 53 (AV.ptr (AHeap.next h_2) 1) v21&&true)))<|
  obind (z252 Tryd.prog 67 [(0,r24),(1,.int .i64 t26)]) fun t27=>
  outK (zdb Tryd.prog h_45 53 1 [(0,.agg t27)]) fun v28 h_49=>
  chk (true&&(true&&(zf2 Tryd.prog h_49 53 (AV.ptr (AHeap.next h_2) 1) v21&&true)))<|
  outK (z4b Tryd.prog h_49 53 53 v21 v28) fun v29 h_52=>
  obind (z17 h_52 1 (AV.cells v29) (AV.ptr (AHeap.next h_2) 1)) fun h_54=>
  lett (IntKind.i64.wrap (t16+1)) fun (t31:Int)=>
  self t31 h_54)
 (
  k20 h_28)
noncomputable def z87(call:zd)(h_2:AHeap)(v14:AV)(t15:Int)(k20:AHeap→R):Nat→Int→AHeap→R:=z103 (fun _ _=>none) (z5a call h_2 v14 t15 k20)
theorem z9a(call:zd)(h_2:AHeap)(v14:AV)(t15:Int)(k20:AHeap→R)(m:Nat):z87 call h_2 v14 t15 k20 (m+1)=z5a call h_2 v14 t15 k20 (z87 call h_2 v14 t15 k20 m):=rfl
noncomputable def z8f(call:zd)(n:Nat)(t0:AV)(h:AHeap):R:=lett (newH h 55 [.nilp,.nsl]) fun h_2=>obind (z74 t0) fun t7=>obind (z4d 0 t7) fun t8=>obind (z9 h_2 t8) fun v9=>obind (z252 Tryd.prog 55 [(0,v9)]) fun t10=>lett (newH h_2 55 [.nilp,.nsl]) fun h_9=>obind (z17 h_9 2 t10 (z7 h_2)) fun h_11=>obind (z74 t0) fun t12=>obind (z4d 1 t12) fun t13=>obind (z9 h_11 t13) fun v14=>obind (z153 v14) fun t15=>lett (fun (h_21:AHeap)=>obind (z18 h_21 2 (z7 h_2)) fun t32=>obind (z17 h_21 2 t32 (z7 h)) fun h_24=>obind (z18 h_24 2 (z7 h)) fun w2=>some (.ret (.agg w2),h_24)) fun k20=>z87 call h_2 v14 t15 k20 n 0 h_11
set_option maxHeartbeats 4000000 in
set_option maxRecDepth 20000 in
theorem z1fc{call:zd}(hc:SaysAll Tryd.prog call){n:Nat}{t0:AV}{h:AHeap}{rR:ARes}{hR:AHeap}(hF:z8f call n t0 h=some (rR,hR)):Says Tryd.prog 17 [t0] h rR hR:=by
 unfold z8f at hF;refine sO Tryd.func17 fun w0 m0=>?_;refine wW [(0,t0)] ?_;refine oG fun n1=>W.r ?_;refine oN 2 hF fun h_2 hF=>?_;refine oV [(0,t0),(2,(z7 h))] (n1 ?_);refine oG fun n4=>W.r ?_;refine oA 6 t0 ?_;refine oC0 7 hF fun t7 hF=>?_;refine oF 8 55 0 hF fun t8 hF=>?_;refine oL 9 52 hF fun v9 hF=>?_;obtain⟨t10,e8,hF⟩:=z4 hF;refine WL.val (d:=(some 10)) (v:=.agg t10) (h':=h_2) (by kernel_rfl) (by kernel_rfl) (z1b7 (by kernel_rfl) e8) ?_;refine oN 3 hF fun h_9 hF=>?_;refine oW 55 (.agg t10) hF fun h_11 hF=>?_;refine oV [(0,t0),(2,(z7 h)),(3,(z7 h_2))] (n4 ?_);refine W.s (fun K13 n13 e13 q13 p13=>?_);refine oG fun n14=>W.r ?_;refine oA 11 t0 ?_;refine oC0 12 hF fun t12 hF=>?_;refine oF 13 55 1 hF fun t13 hF=>?_;refine oL 14 53 hF fun v14 hF=>?_;refine oM 15 53 67 hF fun t15 hF=>?_;refine oA 16 (.int .i64 0) ?_;refine oV [(2,(z7 h)),(3,(z7 h_2)),(14,v14),(15,.int .i64 t15),(16,.int .i64 0)] (n14 ?_);obtain⟨k20,e20,hF⟩:=zc hF
 have J20:∀(h_21:AHeap),k20 h_21=some (rR,hR)→Go w0 m0 (Func.ntmps Tryd.f17) (K13 .normal) [(2,(z7 h)),(3,(z7 h_2))] [] h_21:=by
  intro h_21 hF;rw[e20] at hF;refine n13 ?_;refine oG fun n22=>W.r ?_;refine oR 32 55 hF fun t32 hF=>?_;refine oW 55 (.agg t32) hF fun h_24 hF=>?_;refine oV [(2,(z7 h))] (n22 (oY ?_));obtain⟨w2,e26,hF⟩:=z4 hF;exact lZ hF [.cell 2 55] [.agg w2] (rY e26 zf)
 refine yd (by kernel_rfl) (fun K19 n19 s19 o19 q19 p19=>?_);refine y17 (by kernel_rfl) (fun I27 K27 b27 n27 e27 q27 p27=>?_)
 have L27:∀(m:Nat) (t16:Int) (h_28:AHeap),z87 call h_2 v14 t15 k20 m t16 h_28=some (rR,hR)→Go w0 m0 (Func.ntmps Tryd.f17) I27 [(2,(z7 h)),(3,(z7 h_2)),(14,v14),(15,.int .i64 t15),(16,.int .i64 t16)] [] h_28:=by
  intro m
  induction m with
  |zero=>intro t16 h_28 hF;cases hF
  |succ m ih27=>
   intro t16 h_28 hF;rw[z9a] at hF;unfold z5a at hF;refine b27 ?_;refine oG fun n29=>W.r ?_;refine oB 17 hF fun t17 hF=>?_;refine oV [(2,(z7 h)),(3,(z7 h_2)),(14,v14),(15,.int .i64 t15),(16,.int .i64 t16),(17,.bool t17)] (n29 ?_);refine W.s (fun K31 n31 e31 q31 p31=>?_)
   cases t17 with
   |true=>
    refine oT hF fun hF=>?_;refine oZ (n31 ?_);refine oG fun n32=>?_;refine yd (by kernel_rfl) (fun K33 n33 s33 o33 q33 p33=>?_);refine oG fun n34=>W.r ?_;refine oP 18 53 67 .i64 hF fun t18 hF=>?_;refine oR 19 67 hF fun t19 hF=>?_;refine oN 5 hF fun h_37 hF=>?_;refine oW 67 (.agg t19) hF fun h_39 hF=>?_;refine oV [(2,(z7 h)),(3,(z7 h_2)),(5,(z7 h_28)),(14,v14),(15,.int .i64 t15),(16,.int .i64 t16)] (n34 ?_);refine y1e (by kernel_rfl) (hc.ok w0) (plan:=[0,1,2,3,5,6,4,7,8,9,10,11]) (by kernel_rfl) (by kernel_rfl) (by kernel_rfl) ?_;refine WD.a 0 (some 20) (AV.ptr (AHeap.next h_2) 1) h_39 ?_;obtain⟨v21,e41,hF⟩:=z4 hF;refine WD.b 1 (some 21) v21 h_39 (z15 (P:=Tryd.prog) (h:=h_39) (t:=53) (by kernel_rfl) e41) ?_;refine WD.a 0 (some 22) (AV.ptr (AHeap.next h_28) 0) h_39 ?_;obtain⟨v23,e42,hF⟩:=z4 hF;refine WD.b 1 (some 23) v23 h_39 (z15 (P:=Tryd.prog) (h:=h_39) (t:=65) (by kernel_rfl) e42) ?_;refine WD.a 0 (some 25) (AV.ptr (AHeap.next h_28) 1) h_39 ?_
    replace hF:=z4 hF;obtain⟨v26,e43,hF⟩:=hF
    replace hF:=z4 hF;obtain⟨t26,c44,hF⟩:=hF
    have c44:=z1a c44;subst c44;refine WD.b 1 (some 26) (.int .i64 t26) h_39 (z15 (P:=Tryd.prog) (h:=h_39) (t:=3) (by kernel_rfl) e43) ?_;obtain⟨r24,h_45,e46,hF⟩:=z40 hF;obtain⟨k47,hF⟩:=zef hF;refine WD.call (d:=(some 24)) (by kernel_rfl) (by kernel_rfl) (by kernel_rfl) e46 (k:=2) (by kernel_rfl) (fun _=>(Eq.trans (by kernel_rfl) k47)) (by decide) ?_;obtain⟨t27,e48,hF⟩:=z4 hF;refine WD.val (d:=(some 27)) (v:=.agg t27) (h':=h_45) (by kernel_rfl) (by kernel_rfl) (z1b7 (by kernel_rfl) e48) (k:=0) (by kernel_rfl) (fun e=>absurd e (by decide)) (by decide) ?_;obtain⟨v28,h_49,e50,hF⟩:=z27 hF;obtain⟨k51,hF⟩:=zef hF;refine WD.val (d:=(some 28)) (v:=v28) (h':=h_49) (by kernel_rfl) (by kernel_rfl) (Eq.trans (by kernel_rfl) e50) (k:=2) (by kernel_rfl) (fun _=>(Eq.trans (by kernel_rfl) k51)) (by decide) ?_;obtain⟨v29,h_52,e53,hF⟩:=z27 hF;refine WD.val (d:=(some 29)) (v:=v29) (h':=h_52) (by kernel_rfl) (by kernel_rfl) (Eq.trans (by kernel_rfl) e53) (k:=2) (by kernel_rfl) (fun _=>(by kernel_rfl)) (by decide) ?_;refine WD.a 0 (some 30) (AV.ptr (AHeap.next h_2) 1) h_52 ?_;obtain⟨h_54,e55,hF⟩:=z4 hF;refine WD.eff (h':=h_54) (by kernel_rfl) (by kernel_rfl) (Eq.trans (by kernel_rfl) (z3d (P:=Tryd.prog) (h:=h_52) (t:=53) (v:=v29) (by kernel_rfl) (by kernel_rfl) e55)) (k:=2) (by kernel_rfl) (fun _=>(by kernel_rfl)) (by decide) ?_;refine WD.nil ?_;refine gW [(2,(z7 h)),(3,(z7 h_2)),(14,v14),(15,.int .i64 t15),(16,.int .i64 t16)] (n33 (n32 (W.r ?_)));refine oI 31 .i64 hF fun t31 hF=>?_;refine oA 16 (.int .i64 t31) ?_;refine oV [(2,(z7 h)),(3,(z7 h_2)),(14,v14),(15,.int .i64 t15),(16,.int .i64 t31)] (n27 ?_);exact gW _ (ih27 _ _ hF)
   |false=>
    refine oU hF fun hF=>?_;refine W.exit (by kernel_rfl) ?_;refine e31 (e27 ?_);refine s19 (by kernel_rfl) ?_;exact gW _ (J20 _ hF)
 exact gW _ (L27 _ _ _ hF)
noncomputable def z10e(_:zd)(_:Nat)(t0:AV)(h:AHeap):R:=outK (zc1 Tryd.prog h .eql 65 true (some t0) (some AV.nilp)) fun v5 h_4=>obind (z23 v5) fun t5=>ifB t5 (some (.ret (AV.nilp),h_4)) (obind (z74 t0) fun t7=>obind (z18 h_4 3 t7) fun t8=>lett (newH h_4 74 [.nilp,.bool false,.int .u64 0]) fun h_11=>obind (z17 h_11 3 t8 (z7 h_4)) fun h_13=>some (.ret (z7 h_4),h_13))
set_option maxHeartbeats 4000000 in
set_option maxRecDepth 20000 in
theorem z2c8{call:zd}(_:SaysAll Tryd.prog call){n:Nat}{t0:AV}{h:AHeap}{rR:ARes}{hR:AHeap}(hF:z10e call n t0 h=some (rR,hR)):Says Tryd.prog 22 [t0] h rR hR:=by
 unfold z10e at hF;refine sO Tryd.func22 fun w0 m0=>?_;refine wW [(0,t0)] ?_;refine oG fun n1=>W.r ?_;refine oA 2 AV.nilp ?_;refine oV [(0,t0)] (n1 ?_);refine oH fun n2 q2=>?_;refine oG fun n3=>W.r ?_;refine oA 4 t0 ?_
 replace hF:=z27 hF;obtain⟨v5,h_4,e5,hF⟩:=hF
 replace hF:=z4 hF;obtain⟨t5,c6,hF⟩:=hF
 have c6:=z34 c6;subst c6;refine WL.b (some 5) (.bool t5) h_4 e5 ?_;refine oV [(0,t0),(5,.bool t5)] (n3 ?_)
 cases t5 with
 |true=>
  refine oT hF fun hF=>?_;refine oG fun n7=>W.r ?_;refine oA 2 AV.nilp ?_;refine oV [(2,AV.nilp)] (n7 (oY (q2 ?_)));exact lZ hF [.tmp 2] [AV.nilp] (rT zf)
 |false=>
  refine oU hF fun hF=>?_;refine oZ (n2 ?_);refine oG fun n8=>W.r ?_;refine oA 6 t0 ?_;refine oC0 7 hF fun t7 hF=>?_;refine oR 8 74 hF fun t8 hF=>?_;refine oN 3 hF fun h_11 hF=>?_;refine oW 74 (.agg t8) hF fun h_13 hF=>?_;refine oV [(3,(z7 h_4))] (n8 ?_);refine oG fun n15=>W.r ?_;refine oA 2 (z7 h_4) ?_;refine oV [(2,(z7 h_4))] (n15 (oY ?_));exact lZ hF [.tmp 2] [(z7 h_4)] (rT zf)
noncomputable def z38(_:zd)(_:Nat)(t0:AV)(h:AHeap):R:=outK (zc1 Tryd.prog h .eql 47 true (some t0) (some AV.nsl)) fun v4 h_4=>obind (z23 v4) fun t4=>ifB t4 (some (.ret (AV.nsl),h_4)) (outK (zdb Tryd.prog h_4 47 0 []) fun v5 h_9=>outK (z4b Tryd.prog h_9 47 47 v5 t0) fun v7 h_11=>some (.ret (v7),h_11))
set_option maxHeartbeats 4000000 in
set_option maxRecDepth 20000 in
theorem z149{call:zd}(_:SaysAll Tryd.prog call){n:Nat}{t0:AV}{h:AHeap}{rR:ARes}{hR:AHeap}(hF:z38 call n t0 h=some (rR,hR)):Says Tryd.prog 16 [t0] h rR hR:=by
 unfold z38 at hF;refine sO Tryd.func16 fun w0 m0=>?_;refine wW [(0,t0)] ?_;refine oG fun n1=>W.r ?_;refine oA 2 AV.nsl ?_;refine oV [(0,t0)] (n1 ?_);refine oH fun n2 q2=>?_;refine oG fun n3=>W.r ?_;refine oA 3 t0 ?_
 replace hF:=z27 hF;obtain⟨v4,h_4,e5,hF⟩:=hF
 replace hF:=z4 hF;obtain⟨t4,c6,hF⟩:=hF
 have c6:=z34 c6;subst c6;refine WL.b (some 4) (.bool t4) h_4 e5 ?_;refine oV [(0,t0),(4,.bool t4)] (n3 ?_)
 cases t4 with
 |true=>
  refine oT hF fun hF=>?_;refine oG fun n7=>W.r ?_;refine oA 2 AV.nsl ?_;refine oV [(2,AV.nsl)] (n7 (oY (q2 ?_)));exact lZ hF [.tmp 2] [AV.nsl] (rT zf)
 |false=>
  refine oU hF fun hF=>?_;refine oZ (n2 ?_);refine oG fun n8=>W.r ?_;refine oK 5 hF fun v5 h_9 hF=>?_;refine oA 6 t0 ?_;refine oK 7 hF fun v7 h_11 hF=>?_;refine oA 2 v7 ?_;refine oV [(2,v7)] (n8 (oY ?_));exact lZ hF [.tmp 2] [v7] (rT zf)
noncomputable def z154(call:zd)(t0:AV)(k24:AV→Int→AHeap→R)(self:AV→Int→z11→AHeap→R)(t6_30:AV)(t7_31:Int)(t9:z11)(h_32:AHeap):R:=lett (decide ((z15b t9)>0)) fun (t25:Bool)=>ifB t25 (callN (call 5 [t0,z19 t9] h_32) fun r29 h_38=>obind (z12b 0 r29) fun v30=>obind (avInt .i64 v30) fun t30=>obind (z12b 1 r29) fun v31=>obind (z75 v31) fun t31=>obind (z12b 2 r29) fun v32=>obind (z23 v32) fun t32=>lett (newH h_38 26 [.int .i64 0,.int .i64 0,.int .i64 0]) fun h_46=>obind (z17 h_46 3 t31 (z7 h_38)) fun h_48=>lett (decide (t30<1)) fun (t34:Bool)=>lett (fun (t40:Bool) (h_53:AHeap)=>lett (fun (t55:Bool) (h_56:AHeap)=>ifB t55 (some (.ret (.tup [AV.nsl,.bool false]),h_56)) (lett (IntKind.i64.wrap (t7_31+t30)) fun (t58:Int)=>obind (z309 t9 t30 (z15b t9)) fun t61=>lett (fun (t6_66:AV) (h_67:AHeap)=>self t6_66 t58 t61 h_67) fun k65=>ifB t32 (obind (z18 h_56 3 (z7 h_38)) fun t64=>obind (z252 Tryd.prog 60 [(0,.agg t64),(1,.int .i64 t58)]) fun t66=>outK (zdb Tryd.prog h_56 34 1 [(0,.agg t66)]) fun v67 h_70=>outK (z4b Tryd.prog h_70 34 34 t6_30 v67) fun v68 h_72=>k65 v68 h_72) (k65 t6_30 h_56))) fun j55=>ifB t40 (j55 true h_53) (lett (!t32) fun (t43:Bool)=>lett (fun (t54:Bool) (h_75:AHeap)=>j55 t54 h_75) fun j54=>ifB t43 (lett ((t30:Int) != (z15b t9)) fun (t48:Bool)=>lett (fun (t53:Bool) (h_79:AHeap)=>j54 t53 h_79) fun j53=>ifB t48 (j53 true h_53) (obind (z18 h_53 3 (z7 h_38)) fun t50=>obind (zab Tryd.prog 26 (.agg t50) (.agg ([.int .i64 0,.int .i64 0,.int .i64 0]:List AV))) fun t52=>lett (!t52) fun (t52_84:Bool)=>j53 t52_84 h_53)) (j54 false h_53))) fun j40=>ifB t34 (j40 true h_48) (lett (decide (t30>(z15b t9))) fun (t39:Bool)=>j40 t39 h_48)) (k24 t6_30 t7_31 h_32)
noncomputable def z138(call:zd)(t0:AV)(k24:AV→Int→AHeap→R):Nat→AV→Int→z11→AHeap→R:=z103 (fun _ _ _ _=>none) (z154 call t0 k24)
theorem z206(call:zd)(t0:AV)(k24:AV→Int→AHeap→R)(m:Nat):z138 call t0 k24 (m+1)=z154 call t0 k24 (z138 call t0 k24 m):=rfl
noncomputable def z11c(call:zd)(n:Nat)(t0:AV)(t1:AV)(k7:AV→AHeap→R)(self:AV→Int→Int→AHeap→R)(t6_11:AV)(t7:Int)(t8:Int)(h_12:AHeap):R:=obind (z153 t1) fun t15=>lett (decide (t8<t15)) fun (t16:Bool)=>ifB t16 (obind (z1a6 1 t1 t8) fun t21=>obind (z9 h_12 t21) fun v22=>obind (z16f v22) fun t22=>lett (fun (t6_25:AV) (t7_26:Int) (h_27:AHeap)=>lett (IntKind.i64.wrap (t8+1)) fun (t18:Int)=>self t6_25 t7_26 t18 h_27) fun k24=>z138 call t0 k24 n t6_11 t7 t22 h_12) (k7 t6_11 h_12)
noncomputable def z139(call:zd)(n:Nat)(t0:AV)(t1:AV)(k7:AV→AHeap→R):Nat→AV→Int→Int→AHeap→R:=z103 (fun _ _ _ _=>none) (z11c call n t0 t1 k7)
theorem z181(call:zd)(n:Nat)(t0:AV)(t1:AV)(k7:AV→AHeap→R)(m:Nat):z139 call n t0 t1 k7 (m+1)=z11c call n t0 t1 k7 (z139 call n t0 t1 k7 m):=rfl
noncomputable def z18e(call:zd)(n:Nat)(t0:AV)(t1:AV)(h:AHeap):R:=lett (fun (t6:AV) (h_8:AHeap)=>some (.ret (.tup [t6,.bool true]),h_8)) fun k7=>z139 call n t0 t1 k7 n AV.nsl 0 0 h
set_option maxHeartbeats 4000000 in
set_option maxRecDepth 20000 in
theorem z399{call:zd}(hc:SaysAll Tryd.prog call){n:Nat}{t0:AV}{t1:AV}{h:AHeap}{rR:ARes}{hR:AHeap}(hF:z18e call n t0 t1 h=some (rR,hR)):Says Tryd.prog 9 [t0,t1] h rR hR:=by
 unfold z18e at hF;refine sO Tryd.func9 fun w0 m0=>?_;refine wW [(0,t0),(1,t1)] ?_;refine oG fun n1=>W.r ?_;refine oA 4 AV.nsl ?_;refine oA 5 (.bool false) ?_;refine oV [(0,t0),(1,t1)] (n1 ?_);refine oG fun n2=>W.r ?_;refine oA 6 AV.nsl ?_;refine oV [(0,t0),(1,t1),(6,AV.nsl)] (n2 ?_);refine oG fun n3=>W.r ?_;refine oA 7 (.int .i64 0) ?_;refine oV [(0,t0),(1,t1),(6,AV.nsl),(7,.int .i64 0)] (n3 ?_);refine W.s (fun K4 n4 e4 q4 p4=>?_);refine oG fun n5=>W.r ?_;refine oA 8 (.int .i64 0) ?_;refine oV [(0,t0),(1,t1),(6,AV.nsl),(7,.int .i64 0),(8,.int .i64 0)] (n5 ?_);obtain⟨k7,e7,hF⟩:=zc hF
 have J7:∀(t6:AV) (h_8:AHeap),k7 t6 h_8=some (rR,hR)→Go w0 m0 (Func.ntmps Tryd.f9) (K4 .normal) [(6,t6)] [] h_8:=by
  intro t6 h_8 hF;rw[e7] at hF;refine n4 ?_;refine oG fun n9=>W.r ?_;refine oA 69 t6 ?_;refine oA 4 t6 ?_;refine oA 5 (.bool true) ?_;refine oV [(4,t6),(5,.bool true)] (n9 (oY ?_));exact lZ hF [.tmp 4,.tmp 5] [t6,.bool true] (rT (rT zf))
 refine yd (by kernel_rfl) (fun K6 n6 s6 o6 q6 p6=>?_);refine y17 (by kernel_rfl) (fun I10 K10 b10 n10 e10 q10 p10=>?_)
 have L10:∀(m:Nat) (t6_11:AV) (t7:Int) (t8:Int) (h_12:AHeap),z139 call n t0 t1 k7 m t6_11 t7 t8 h_12=some (rR,hR)→Go w0 m0 (Func.ntmps Tryd.f9) I10 [(0,t0),(1,t1),(6,t6_11),(7,.int .i64 t7),(8,.int .i64 t8)] [] h_12:=by
  intro m
  induction m with
  |zero=>intro t6_11 t7 t8 h_12 hF;cases hF
  |succ m ih10=>
   intro t6_11 t7 t8 h_12 hF;rw[z181] at hF;unfold z11c at hF;refine b10 ?_;refine W.s (fun K13 n13 e13 q13 p13=>?_);refine oG fun n14=>W.r ?_;refine oA 13 (.int .i64 t8) ?_;refine oA 14 t1 ?_;refine oM 15 37 9 hF fun t15 hF=>?_;refine oB 16 hF fun t16 hF=>?_;refine oV [(0,t0),(1,t1),(6,t6_11),(7,.int .i64 t7),(8,.int .i64 t8),(16,.bool t16)] (n14 ?_)
   cases t16 with
   |true=>
    refine oT hF fun hF=>?_;refine oZ (n13 ?_);refine oH fun n17 q17=>?_;refine yd (by kernel_rfl) (fun K18 n18 s18 o18 q18 p18=>?_);refine oG fun n19=>W.r ?_;refine oA 19 t1 ?_;refine oA 20 (.int .i64 t8) ?_;refine oP 21 37 9 .i64 hF fun t21 hF=>?_;refine oLs 22 9 hF fun t22 hF=>?_;refine oA 9 (z19 t22) ?_;refine oV [(0,t0),(1,t1),(6,t6_11),(7,.int .i64 t7),(8,.int .i64 t8),(9,z19 t22)] (n19 ?_);obtain⟨k24,e24,hF⟩:=zc hF
    have J24:∀(t6_25:AV) (t7_26:Int) (h_27:AHeap),k24 t6_25 t7_26 h_27=some (rR,hR)→Go w0 m0 (Func.ntmps Tryd.f9) (K18 .normal) [(0,t0),(1,t1),(6,t6_25),(7,.int .i64 t7_26),(8,.int .i64 t8)] [] h_27:=by
     intro t6_25 t7_26 h_27 hF;rw[e24] at hF;refine n18 (n17 (W.r ?_));refine oA 17 (.int .i64 t8) ?_;refine oI 18 .i64 hF fun t18 hF=>?_;refine oA 8 (.int .i64 t18) ?_;refine oV [(0,t0),(1,t1),(6,t6_25),(7,.int .i64 t7_26),(8,.int .i64 t18)] (n10 ?_);exact gW _ (ih10 _ _ _ _ hF)
    refine yd (by kernel_rfl) (fun K23 n23 s23 o23 q23 p23=>?_);refine y17 (by kernel_rfl) (fun I29 K29 b29 n29 e29 q29 p29=>?_)
    have L29:∀(m:Nat) (t6_30:AV) (t7_31:Int) (t9:z11) (h_32:AHeap),z138 call t0 k24 m t6_30 t7_31 t9 h_32=some (rR,hR)→Go w0 m0 (Func.ntmps Tryd.f9) I29 [(0,t0),(1,t1),(6,t6_30),(7,.int .i64 t7_31),(8,.int .i64 t8),(9,z19 t9)] [] h_32:=by
     intro m
     induction m with
     |zero=>intro t6_30 t7_31 t9 h_32 hF;cases hF
     |succ m ih29=>
      intro t6_30 t7_31 t9 h_32 hF;rw[z206] at hF;unfold z154 at hF;refine b29 ?_;refine W.s (fun K33 n33 e33 q33 p33=>?_);refine oG fun n34=>W.r ?_;refine oA 23 (z19 t9) ?_;refine oA 24 (.int .i64 (z15b t9)) ?_;refine oB 25 hF fun t25 hF=>?_;refine oV [(0,t0),(1,t1),(6,t6_30),(7,.int .i64 t7_31),(8,.int .i64 t8),(9,z19 t9),(25,.bool t25)] (n34 ?_)
      cases t25 with
      |true=>
       refine oT hF fun hF=>?_;refine oZ (n33 ?_);refine yd (by kernel_rfl) (fun K36 n36 s36 o36 q36 p36=>?_);refine oG fun n37=>W.r ?_;refine oA 27 t0 ?_;refine oA 28 (z19 t9) ?_;refine oC hc (some 29) hF fun r29 h_38 hF=>?_;refine oA 26 r29 ?_;refine oEi 30 hF fun t30 hF=>?_;refine oEa 31 hF fun t31 hF=>?_;refine oEb 32 hF fun t32 hF=>?_;refine oN 11 hF fun h_46 hF=>?_;refine oA 10 (.int .i64 t30) ?_;refine oW 26 (.agg t31) hF fun h_48 hF=>?_;refine oA 12 (.bool t32) ?_;refine oV [(0,t0),(1,t1),(6,t6_30),(7,.int .i64 t7_31),(8,.int .i64 t8),(9,z19 t9),(10,.int .i64 t30),(11,(z7 h_38)),(12,.bool t32)] (n37 ?_);refine oH fun n50 q50=>?_;refine W.s (fun K51 n51 e51 q51 p51=>?_);refine W.r ?_;refine oA 33 (.int .i64 t30) ?_;refine oB 34 hF fun t34 hF=>?_;refine oA 35 (.bool t34) ?_;obtain⟨j40,e54,hF⟩:=zc hF
       have J55:∀(t40:Bool) (h_53:AHeap),j40 t40 h_53=some (rR,hR)→WL Tryd.prog w0 m0 (Func.ntmps Tryd.f9) (Code.ops (y6 (y6 (y3 (y6 (y3 (y6 (y6 (y3 (y6 (y6 (y3 (y6 (y6 (y3 (y6 (y3 (y3 (y3 (z4e Tryd.f9)))))))))))))))))))) 8 K51 [(0,t0),(1,t1),(6,t6_30),(7,.int .i64 t7_31),(8,.int .i64 t8),(9,z19 t9),(10,.int .i64 t30),(11,(z7 h_38)),(12,.bool t32),(40,.bool t40)] [] h_53:=by
        intro t40 h_53 hF;rw[e54] at hF;refine oA 41 (.bool t40) ?_;obtain⟨j55,e57,hF⟩:=zc hF
        have J58:∀(t55:Bool) (h_56:AHeap),j55 t55 h_56=some (rR,hR)→WL Tryd.prog w0 m0 (Func.ntmps Tryd.f9) (Code.ops (y6 (y6 (y3 (y6 (y3 (y6 (y6 (y3 (y6 (y6 (y3 (y6 (y6 (y3 (y6 (y3 (y3 (y3 (z4e Tryd.f9)))))))))))))))))))) 23 K51 [(0,t0),(1,t1),(6,t6_30),(7,.int .i64 t7_31),(8,.int .i64 t8),(9,z19 t9),(10,.int .i64 t30),(11,(z7 h_38)),(12,.bool t32),(55,.bool t55)] [] h_56:=by
         intro t55 h_56 hF;rw[e57] at hF;refine oV [(0,t0),(1,t1),(6,t6_30),(7,.int .i64 t7_31),(8,.int .i64 t8),(9,z19 t9),(10,.int .i64 t30),(11,(z7 h_38)),(12,.bool t32),(55,.bool t55)] (n51 ?_)
         cases t55 with
         |true=>
          refine oT hF fun hF=>?_;refine oG fun n59=>W.r ?_;refine oA 4 AV.nsl ?_;refine oA 5 (.bool false) ?_;refine oV [(4,AV.nsl),(5,.bool false)] (n59 (oY (q50 (q36 (q29 (q23 (q18 (q17 (q10 (q6 (q4 ?_)))))))))));exact lZ hF [.tmp 4,.tmp 5] [AV.nsl,.bool false] (rT (rT zf))
         |false=>
          refine oU hF fun hF=>?_;refine oZ (n50 ?_);refine oG fun n60=>W.r ?_;refine oA 56 (.int .i64 t7_31) ?_;refine oA 57 (.int .i64 t30) ?_;refine oI 58 .i64 hF fun t58 hF=>?_;refine oA 7 (.int .i64 t58) ?_;refine oV [(0,t0),(1,t1),(6,t6_30),(7,.int .i64 t58),(8,.int .i64 t8),(9,z19 t9),(10,.int .i64 t30),(11,(z7 h_38)),(12,.bool t32)] (n60 ?_);refine oG fun n62=>W.r ?_;refine oA 59 (z19 t9) ?_;refine oA 60 (.int .i64 t30) ?_;obtain⟨t61,e63,hF⟩:=z4 hF;refine WL.b (some 61) (z19 t61) h_56 (z37a (P:=Tryd.prog) (h:=h_56) (t:=9) (A:=(some (.int .i64 t30))) (B:=none) (by kernel_rfl) (.inl ⟨_,rfl⟩) (.inr ⟨rfl,rfl⟩) e63) ?_;refine oA 9 (z19 t61) ?_;refine oV [(0,t0),(1,t1),(6,t6_30),(7,.int .i64 t58),(8,.int .i64 t8),(9,z19 t61),(11,(z7 h_38)),(12,.bool t32)] (n62 ?_);refine oG fun n64=>W.r ?_;refine oA 62 (.bool t32) ?_;refine oV [(0,t0),(1,t1),(6,t6_30),(7,.int .i64 t58),(8,.int .i64 t8),(9,z19 t61),(11,(z7 h_38)),(62,.bool t32)] (n64 ?_);obtain⟨k65,e65,hF⟩:=zc hF
          have J65:∀(t6_66:AV) (h_67:AHeap),k65 t6_66 h_67=some (rR,hR)→Go w0 m0 (Func.ntmps Tryd.f9) (K36 .normal) [(0,t0),(1,t1),(6,t6_66),(7,.int .i64 t58),(8,.int .i64 t8),(9,z19 t61)] [] h_67:=by
           intro t6_66 h_67 hF;rw[e65] at hF;refine n36 (n29 ?_);exact gW _ (ih29 _ _ _ _ hF)
          cases t32 with
          |true=>
           refine oT hF fun hF=>?_;refine W.r ?_;refine oA 63 t6_30 ?_;refine oR 64 26 hF fun t64 hF=>?_;refine oA 65 (.int .i64 t58) ?_;obtain⟨t66,e69,hF⟩:=z4 hF;refine WL.val (d:=(some 66)) (v:=.agg t66) (h':=h_56) (by kernel_rfl) (by kernel_rfl) (z1b7 (by kernel_rfl) e69) ?_;refine oK 67 hF fun v67 h_70 hF=>?_;refine oK 68 hF fun v68 h_72 hF=>?_;refine oA 6 v68 ?_;refine oV [(0,t0),(1,t1),(6,v68),(7,.int .i64 t58),(8,.int .i64 t8),(9,z19 t61)] ?_;exact gW _ (J65 _ _ hF)
          |false=>
           refine oU hF fun hF=>?_;refine oZ ?_;exact gW _ (J65 _ _ hF)
        cases t40 with
        |true=>
         replace hF:=zae hF
         refine WL.o (some 42) ?_;refine WL.o (some 43) ?_;refine WL.o (some 44) ?_;refine WL.o (some 45) ?_;refine WL.o (some 46) ?_;refine WL.o (some 47) ?_;refine WL.o (some 48) ?_;refine WL.o (some 49) ?_;refine WL.o (some 50) ?_;refine WL.o (some 51) ?_;refine WL.o (some 52) ?_;refine WL.o (some 53) ?_;refine WL.o (some 54) ?_;refine oA 55 (.bool true) ?_;exact lW _ (J58 _ _ hF)
        |false=>
         replace hF:=zaf hF
         refine oA 42 (.bool t32) ?_;refine oB 43 hF fun t43 hF=>?_;refine oA 44 (.bool t43) ?_;obtain⟨j54,e76,hF⟩:=zc hF
         have J77:∀(t54:Bool) (h_75:AHeap),j54 t54 h_75=some (rR,hR)→WL Tryd.prog w0 m0 (Func.ntmps Tryd.f9) (Code.ops (y6 (y6 (y3 (y6 (y3 (y6 (y6 (y3 (y6 (y6 (y3 (y6 (y6 (y3 (y6 (y3 (y3 (y3 (z4e Tryd.f9)))))))))))))))))))) 22 K51 [(0,t0),(1,t1),(6,t6_30),(7,.int .i64 t7_31),(8,.int .i64 t8),(9,z19 t9),(10,.int .i64 t30),(11,(z7 h_38)),(12,.bool t32),(41,.bool false),(54,.bool t54)] [] h_75:=by
          intro t54 h_75 hF;rw[e76] at hF;refine oA 55 (.bool t54) ?_;exact lW _ (J58 _ _ hF)
         cases t43 with
         |true=>
          replace hF:=zae hF
          refine oA 45 (.int .i64 t30) ?_;refine oA 46 (z19 t9) ?_;refine oA 47 (.int .i64 (z15b t9)) ?_;refine oB 48 hF fun t48 hF=>?_;refine oA 49 (.bool t48) ?_;obtain⟨j53,e80,hF⟩:=zc hF
          have J81:∀(t53:Bool) (h_79:AHeap),j53 t53 h_79=some (rR,hR)→WL Tryd.prog w0 m0 (Func.ntmps Tryd.f9) (Code.ops (y6 (y6 (y3 (y6 (y3 (y6 (y6 (y3 (y6 (y6 (y3 (y6 (y6 (y3 (y6 (y3 (y3 (y3 (z4e Tryd.f9)))))))))))))))))))) 21 K51 [(0,t0),(1,t1),(6,t6_30),(7,.int .i64 t7_31),(8,.int .i64 t8),(9,z19 t9),(10,.int .i64 t30),(11,(z7 h_38)),(12,.bool t32),(41,.bool false),(44,.bool true),(53,.bool t53)] [] h_79:=by
           intro t53 h_79 hF;rw[e80] at hF;refine oA 54 (.bool t53) ?_;exact lW _ (J77 _ _ hF)
          cases t48 with
          |true=>
           replace hF:=zae hF
           refine WL.o (some 50) ?_;refine WL.o (some 51) ?_;refine WL.o (some 52) ?_;refine oA 53 (.bool true) ?_;exact lW _ (J81 _ _ hF)
          |false=>
           replace hF:=zaf hF
           refine oR 50 26 hF fun t50 hF=>?_;refine oA 51 (.agg ([.int .i64 0,.int .i64 0,.int .i64 0]:List AV)) ?_;obtain⟨t52,e83,hF⟩:=z4 hF;obtain⟨t52_84,e85,hF⟩:=zc hF;refine WL.val (d:=(some 52)) (v:=.bool t52_84) (h':=h_53) (by kernel_rfl) (by kernel_rfl) (z107 AV.bool e85 (Eq.trans (by kernel_rfl) (z2cb (P:=Tryd.prog) (h:=h_53) (t:=26) (lit:=false) (by kernel_rfl) e83))) ?_;refine oA 53 (.bool t52_84) ?_;exact lW _ (J81 _ _ hF)
         |false=>
          replace hF:=zaf hF
          refine WL.o (some 45) ?_;refine WL.o (some 46) ?_;refine WL.o (some 47) ?_;refine WL.o (some 48) ?_;refine WL.o (some 49) ?_;refine WL.o (some 50) ?_;refine WL.o (some 51) ?_;refine WL.o (some 52) ?_;refine WL.o (some 53) ?_;refine oA 54 (.bool false) ?_;exact lW _ (J77 _ _ hF)
       cases t34 with
       |true=>
        replace hF:=zae hF
        refine WL.o (some 36) ?_;refine WL.o (some 37) ?_;refine WL.o (some 38) ?_;refine WL.o (some 39) ?_;refine oA 40 (.bool true) ?_;exact lW _ (J55 _ _ hF)
       |false=>
        replace hF:=zaf hF
        refine oA 36 (.int .i64 t30) ?_;refine oA 37 (z19 t9) ?_;refine oA 38 (.int .i64 (z15b t9)) ?_;refine oB 39 hF fun t39 hF=>?_;refine oA 40 (.bool t39) ?_;exact lW _ (J55 _ _ hF)
      |false=>
       refine oU hF fun hF=>?_;refine W.exit (by kernel_rfl) ?_;refine e33 (e29 ?_);refine s23 (by kernel_rfl) ?_;exact gW _ (J24 _ _ _ hF)
    exact gW _ (L29 _ _ _ _ _ hF)
   |false=>
    refine oU hF fun hF=>?_;refine W.exit (by kernel_rfl) ?_;refine e13 (e10 ?_);refine s6 (by kernel_rfl) ?_;exact gW _ (J7 _ _ hF)
 exact gW _ (L10 _ _ _ _ _ hF)
noncomputable def zaa(t0:AV)(t1:AV)(k11:AHeap→R)(self:Int→AHeap→R)(t5:Int)(h_15:AHeap):R:=obind (z153 t0) fun t13=>lett (decide (t5<t13)) fun (t14:Bool)=>ifB t14 (obind (z1a6 4 t0 t5) fun t19=>obind (z18 h_15 4 t19) fun t20=>obind (z1a6 4 t1 t5) fun t23=>obind (z18 h_15 4 t23) fun t24=>obind (zab Tryd.prog 60 (.agg t20) (.agg t24)) fun t25=>lett (!t25) fun (t25_28:Bool)=>ifB t25_28 (some (.ret (.bool false),h_15)) (lett (IntKind.i64.wrap (t5+1)) fun (t16:Int)=>self t16 h_15)) (k11 h_15)
noncomputable def z11b(t0:AV)(t1:AV)(k11:AHeap→R):Nat→Int→AHeap→R:=z103 (fun _ _=>none) (zaa t0 t1 k11)
theorem ze5(t0:AV)(t1:AV)(k11:AHeap→R)(m:Nat):z11b t0 t1 k11 (m+1)=zaa t0 t1 k11 (z11b t0 t1 k11 m):=rfl
noncomputable def z15c(_:zd)(n:Nat)(t0:AV)(t1:AV)(h:AHeap):R:=obind (z153 t0) fun t7=>obind (z153 t1) fun t9=>lett ((t7:Int) != t9) fun (t10:Bool)=>ifB t10 (some (.ret (.bool false),h)) (lett (fun (h_12:AHeap)=>some (.ret (.bool true),h_12)) fun k11=>z11b t0 t1 k11 n 0 h)
set_option maxHeartbeats 4000000 in
set_option maxRecDepth 20000 in
theorem z350{call:zd}(hc:SaysAll Tryd.prog call){n:Nat}{t0:AV}{t1:AV}{h:AHeap}{rR:ARes}{hR:AHeap}(hF:z15c call n t0 t1 h=some (rR,hR)):Says Tryd.prog 10 [t0,t1] h rR hR:=by
 unfold z15c at hF;refine sO Tryd.func10 fun w0 m0=>?_;refine wW [(0,t0),(1,t1)] ?_;refine oG fun n1=>W.r ?_;refine oA 4 (.bool false) ?_;refine oV [(0,t0),(1,t1)] (n1 ?_);refine oH fun n2 q2=>?_;refine oG fun n3=>W.r ?_;refine oA 6 t0 ?_;refine oM 7 34 60 hF fun t7 hF=>?_;refine oA 8 t1 ?_;refine oM 9 34 60 hF fun t9 hF=>?_;refine oB 10 hF fun t10 hF=>?_;refine oV [(0,t0),(1,t1),(10,.bool t10)] (n3 ?_)
 cases t10 with
 |true=>
  refine oT hF fun hF=>?_;refine oG fun n7=>W.r ?_;refine oA 4 (.bool false) ?_;refine oV [(4,.bool false)] (n7 (oY (q2 ?_)));exact lZ hF [.tmp 4] [.bool false] (rT zf)
 |false=>
  refine oU hF fun hF=>?_;refine oZ (n2 ?_);refine W.s (fun K8 n8 e8 q8 p8=>?_);refine oG fun n9=>W.r ?_;refine oA 5 (.int .i64 0) ?_;refine oV [(0,t0),(1,t1),(5,.int .i64 0)] (n9 ?_);obtain⟨k11,e11,hF⟩:=zc hF
  have J11:∀(h_12:AHeap),k11 h_12=some (rR,hR)→Go w0 m0 (Func.ntmps Tryd.f10) (K8 .normal) [] [] h_12:=by
   intro h_12 hF;rw[e11] at hF;refine n8 ?_;refine oG fun n13=>W.r ?_;refine oA 4 (.bool true) ?_;refine oV [(4,.bool true)] (n13 (oY ?_));exact lZ hF [.tmp 4] [.bool true] (rT zf)
  refine yd (by kernel_rfl) (fun K10 n10 s10 o10 q10 p10=>?_);refine y17 (by kernel_rfl) (fun I14 K14 b14 n14 e14 q14 p14=>?_)
  have L14:∀(m:Nat) (t5:Int) (h_15:AHeap),z11b t0 t1 k11 m t5 h_15=some (rR,hR)→Go w0 m0 (Func.ntmps Tryd.f10) I14 [(0,t0),(1,t1),(5,.int .i64 t5)] [] h_15:=by
   intro m
   induction m with
   |zero=>intro t5 h_15 hF;cases hF
   |succ m ih14=>
    intro t5 h_15 hF;rw[ze5] at hF;unfold zaa at hF;refine b14 ?_;refine W.s (fun K16 n16 e16 q16 p16=>?_);refine oG fun n17=>W.r ?_;refine oA 11 (.int .i64 t5) ?_;refine oA 12 t0 ?_;refine oM 13 34 60 hF fun t13 hF=>?_;refine oB 14 hF fun t14 hF=>?_;refine oV [(0,t0),(1,t1),(5,.int .i64 t5),(14,.bool t14)] (n17 ?_)
    cases t14 with
    |true=>
     refine oT hF fun hF=>?_;refine oZ (n16 ?_);refine oH fun n20 q20=>?_;refine yd (by kernel_rfl) (fun K21 n21 s21 o21 q21 p21=>?_);refine oG fun n22=>?_;refine y1e (by kernel_rfl) (hc.ok w0) (plan:=[0,1,2,3,4,5,6,7,8]) (by kernel_rfl) (by kernel_rfl) (by kernel_rfl) ?_;refine WD.a 0 (some 17) t0 h_15 ?_;refine WD.a 0 (some 18) (.int .i64 t5) h_15 ?_;obtain⟨t19,e23,hF⟩:=z4 hF;refine WD.b 0 (some 19) t19 h_15 (z18f (P:=Tryd.prog) (h:=h_15) (t:=34) (e':=60) (k:=.i64) (by kernel_rfl) (by kernel_rfl) (by kernel_rfl) e23) ?_;obtain⟨t20,e24,hF⟩:=z4 hF;refine WD.b 1 (some 20) (.agg t20) h_15 (zc6 (P:=Tryd.prog) (h:=h_15) (t:=60) (by kernel_rfl) (by kernel_rfl) e24) ?_;refine WD.a 0 (some 21) t1 h_15 ?_;refine WD.a 0 (some 22) (.int .i64 t5) h_15 ?_;obtain⟨t23,e25,hF⟩:=z4 hF;refine WD.b 0 (some 23) t23 h_15 (z18f (P:=Tryd.prog) (h:=h_15) (t:=34) (e':=60) (k:=.i64) (by kernel_rfl) (by kernel_rfl) (by kernel_rfl) e25) ?_;obtain⟨t24,e26,hF⟩:=z4 hF;refine WD.b 1 (some 24) (.agg t24) h_15 (zc6 (P:=Tryd.prog) (h:=h_15) (t:=60) (by kernel_rfl) (by kernel_rfl) e26) ?_;obtain⟨t25,e27,hF⟩:=z4 hF;obtain⟨t25_28,e29,hF⟩:=zc hF;refine WD.val (d:=(some 25)) (v:=.bool t25_28) (h':=h_15) (by kernel_rfl) (by kernel_rfl) (z107 AV.bool e29 (Eq.trans (by kernel_rfl) (z2cb (P:=Tryd.prog) (h:=h_15) (t:=60) (lit:=false) (by kernel_rfl) e27))) (k:=0) (by kernel_rfl) (fun e=>absurd e (by decide)) (by decide) ?_;refine WD.nil ?_;refine gW [(0,t0),(1,t1),(5,.int .i64 t5),(25,.bool t25_28)] (n22 ?_)
     cases t25_28 with
     |true=>
      refine oT hF fun hF=>?_;refine oG fun n30=>W.r ?_;refine oA 4 (.bool false) ?_;refine oV [(4,.bool false)] (n30 (oY (q21 (q20 (q14 (q10 (q8 ?_)))))));exact lZ hF [.tmp 4] [.bool false] (rT zf)
     |false=>
      refine oU hF fun hF=>?_;refine oZ (n21 (n20 (W.r ?_)));refine oA 15 (.int .i64 t5) ?_;refine oI 16 .i64 hF fun t16 hF=>?_;refine oA 5 (.int .i64 t16) ?_;refine oV [(0,t0),(1,t1),(5,.int .i64 t16)] (n14 ?_);exact gW _ (ih14 _ _ hF)
    |false=>
     refine oU hF fun hF=>?_;refine W.exit (by kernel_rfl) ?_;refine e16 (e14 ?_);refine s10 (by kernel_rfl) ?_;exact gW _ (J11 _ hF)
  exact gW _ (L14 _ _ _ hF)
noncomputable def worldF(n:Nat)(call:zd):zd:=z32b [(35,fn1 Dv (zbe call n)),(62,fn2 Dv (Di .u8) (z54 call n)),(56,fn2 Dv (Di .u8) (z66 call n)),(59,fn2 Dv (Di .u8) (z72 call n)),(49,fn1 Dv (z67 call n)),(47,fn1 Dv (z60 call n)),(51,fn1 Dv (z55 call n)),(64,fn1 Dv (z3a call n)),(57,gcF (fn2 (Di .i64) (Di .i64) (zce call n))),(29,gcF (fn1 Da (z14 call n))),(36,fn3 Dv Dv Dv (za8 call n)),(37,fn2 Dv (Di .i64) (z26 call n)),(44,fn2 Dv Dv (z7d call n)),(48,fn1 Dv (z2e call n)),(45,fn1 Dv (z20 call n)),(46,fn1 Dv (z2b call n)),(55,fn1 Dv (z39 call n)),(60,fn1 Dv (z1e call n)),(61,fn1 Dv (z1c call n)),(63,fn1 Dv (z3b call n)),(65,fn2 Dv Dv (z29 call n)),(66,fn1 Dv (z1f call n)),(58,fn3 Dv (Di .u8) (Di .u8) (zb1 call n)),(54,gcF (fn1 (Di .u8) (z92 call n))),(53,gcF (fn0 (z93 call n))),(52,fn2 (Di .i64) Dv (z108 call n)),(50,fn1 Dv (za0 call n)),(23,gcF (fn1 Da (z204 call n))),(25,fn1 Dv (zec call n)),(28,fn1 Dv (z10c call n)),(27,fn1 Dv (z10d call n)),(26,fn2 Dv (Di .u8) (z10b call n)),(33,fn1 Dv (z10a call n)),(34,fn2 Dv (Di .u64) (zcf call n)),(42,gcF (fn1 (Di .u64) (z31 call n))),(30,fn2 Dv Da (z1d call n)),(38,fn2 Dv Da (z8d call n)),(39,fn3 Dv Da Da (z7f call n)),(40,fn3 Dv (Di .u64) (Di .u64) (z7e call n)),(31,fn1 Dv (z10f call n)),(41,fn2 Dv (Di .u64) (zeb call n)),(11,fn2 Dv Ds (z129 call n)),(18,fn1 Dv (ze3 call n)),(14,fn3 Dv (Di .u8) (Di .i64) (z159 call n)),(20,fn3 Dv (Di .u8) (Di .i64) (zd0 call n)),(21,fn2 Dv (Di .i64) (zd1 call n)),(24,gcF (fn1 Da (zc0 call n))),(32,gcF (fn1 Da (zbf call n))),(8,fn1 Dv (z169 call n)),(5,fn2 Dv Ds (z62 call n)),(13,fn2 Dv (Di .u8) (z80 call n)),(15,fn1 Dv (z73 call n)),(19,fn2 Dv (Di .i64) (z9f call n)),(6,fn1 Dv (z48 call n)),(12,gcF (fn1 Ds (z15a call n))),(4,gcF (fn0 (z102 call n))),(7,fn1 Dv (z63 call n)),(17,fn1 Dv (z8f call n)),(22,fn1 Dv (z10e call n)),(16,fn1 Dv (z38 call n)),(9,fn2 Dv Dv (z18e call n)),(10,fn2 Dv Dv (z15c call n))]
set_option maxRecDepth 20000 in
theorem z480(n:Nat)(call:zd)(hc:SaysAll Tryd.prog call):SaysAll Tryd.prog (worldF n call):=(ze (z25 Dv (z292 hc))
 (ze (z5b Dv (Di .u8) (z1be hc))
 (ze (z5b Dv (Di .u8) (z19a hc))
 (ze (z5b Dv (Di .u8) (z1bf hc))
 (ze (z25 Dv (z19b hc))
 (ze (z25 Dv (z1cc hc))
 (ze (z25 Dv (z1c0 hc))
 (ze (z25 Dv (z14c hc))
 (ze (zfa (z5b (Di .i64) (Di .i64) (z264 hc)))
 (ze (zfa (z25 Da (z2ba hc)))
 (ze (z190 Dv Dv Dv (z265 hc))
 (ze (z5b Dv (Di .i64) (z1bd hc))
 (ze (z5b Dv Dv (z1cb hc))
 (ze (z25 Dv (z141 hc))
 (ze (z25 Dv (z173 hc))
 (ze (z25 Dv (z137 hc))
 (ze (z25 Dv (z14b hc))
 (ze (z25 Dv (z140 hc))
 (ze (z25 Dv (z1c1 hc))
 (ze (z25 Dv (z17e hc))
 (ze (z5b Dv Dv (z189 hc))
 (ze (z25 Dv (z14d hc))
 (ze (z190 Dv (Di .u8) (Di .u8) (z237 hc))
 (ze (zfa (z25 (Di .u8) (z235 hc)))
 (ze (zfa (z3aa (z236 hc)))
 (ze (z5b (Di .i64) Dv (z2b9 hc))
 (ze (z25 Dv (z291 hc))
 (ze (zfa (z25 Da (z4a4 hc)))
 (ze (z25 Dv (z297 hc))
 (ze (z25 Dv (z2c6 hc))
 (ze (z25 Dv (z2c7 hc))
 (ze (z5b Dv (Di .u8) (z2c5 hc))
 (ze (z25 Dv (z2c4 hc))
 (ze (z5b Dv (Di .u64) (z26c hc))
 (ze (zfa (z25 (Di .u64) (z151 hc)))
 (ze (z5b Dv Da (z1fb hc))
 (ze (z5b Dv Da (z1fa hc))
 (ze (z190 Dv Da Da (z1d3 hc))
 (ze (z190 Dv (Di .u64) (Di .u64) (z1d2 hc))
 (ze (z25 Dv (z2c9 hc))
 (ze (z5b Dv (Di .u64) (z296 hc))
 (ze (z5b Dv Ds (z2f7 hc))
 (ze (z25 Dv (z2ce hc))
 (ze (z190 Dv (Di .u8) (Di .i64) (z34d hc))
 (ze (z190 Dv (Di .u8) (Di .i64) (z26f hc))
 (ze (z5b Dv (Di .i64) (z270 hc))
 (ze (zfa (z25 Da (z294 hc)))
 (ze (zfa (z25 Da (z293 hc)))
 (ze (z25 Dv (z393 hc))
 (ze (z5b Dv Ds (z1d6 hc))
 (ze (z5b Dv (Di .u8) (z1d5 hc))
 (ze (z25 Dv (z1c3 hc))
 (ze (z5b Dv (Di .i64) (z21d hc))
 (ze (z25 Dv (z1a3 hc))
 (ze (zfa (z25 Ds (z34e hc)))
 (ze (zfa (z3aa (z2f8 hc)))
 (ze (z25 Dv (z1d7 hc))
 (ze (z25 Dv (z1fc hc))
 (ze (z25 Dv (z2c8 hc))
 (ze (z25 Dv (z149 hc))
 (ze (z5b Dv Dv (z399 hc))
 (ze (z5b Dv Dv (z350 hc))
 z46f))))))))))))))))))))))))))))))))))))))))))))))))))))))))))))))
noncomputable def world(n d:Nat):zd:=iterW (worldF n) d
theorem world_ok(n d:Nat):SaysAll Tryd.prog (world n d):=z427 (z480 n) d
theorem z1c6(n d:Nat)(t0:AV)(h:AHeap):world n (d+1) 35 [t0] h=zbe (world n d) n t0 h:=
 Eq.trans (b:=fn1 Dv (zbe (world n d) n) [t0] h) (by kernel_rfl) (z81 Dv _ t0 h)
theorem z134(n d:Nat)(t0:AV)(t1:Int)(h:AHeap):world n (d+1) 62 [t0,.int .u8 t1] h=z54 (world n d) n t0 t1 h:=
 Eq.trans (b:=fn2 Dv (Di .u8) (z54 (world n d) n) [t0,.int .u8 t1] h) (by kernel_rfl) (z111 Dv (Di .u8) _ t0 t1 h)
theorem z1bb(n d:Nat)(t0:AV)(t1:Int)(h:AHeap):world n (d+1) 56 [t0,.int .u8 t1] h=z66 (world n d) n t0 t1 h:=
 Eq.trans (b:=fn2 Dv (Di .u8) (z66 (world n d) n) [t0,.int .u8 t1] h) (by kernel_rfl) (z111 Dv (Di .u8) _ t0 t1 h)
theorem z1c5(n d:Nat)(t0:AV)(t1:Int)(h:AHeap):world n (d+1) 59 [t0,.int .u8 t1] h=z72 (world n d) n t0 t1 h:=
 Eq.trans (b:=fn2 Dv (Di .u8) (z72 (world n d) n) [t0,.int .u8 t1] h) (by kernel_rfl) (z111 Dv (Di .u8) _ t0 t1 h)
theorem z1bc(n d:Nat)(t0:AV)(h:AHeap):world n (d+1) 49 [t0] h=z67 (world n d) n t0 h:=
 Eq.trans (b:=fn1 Dv (z67 (world n d) n) [t0] h) (by kernel_rfl) (z81 Dv _ t0 h)
theorem z143(n d:Nat)(t0:AV)(h:AHeap):world n (d+1) 47 [t0] h=z60 (world n d) n t0 h:=
 Eq.trans (b:=fn1 Dv (z60 (world n d) n) [t0] h) (by kernel_rfl) (z81 Dv _ t0 h)
theorem z135(n d:Nat)(t0:AV)(h:AHeap):world n (d+1) 51 [t0] h=z55 (world n d) n t0 h:=
 Eq.trans (b:=fn1 Dv (z55 (world n d) n) [t0] h) (by kernel_rfl) (z81 Dv _ t0 h)
theorem z160(n d:Nat)(t0:AV)(h:AHeap):world n (d+1) 64 [t0] h=z3a (world n d) n t0 h:=
 Eq.trans (b:=fn1 Dv (z3a (world n d) n) [t0] h) (by kernel_rfl) (z81 Dv _ t0 h)
theorem z28c(n d:Nat)(t0:Int)(t1:Int)(h:AHeap):world n (d+1) 57 [.int .i64 t0,.int .i64 t1] h=gcR h (zce (world n d) n t0 t1 h):=
 Eq.trans (b:=gcR h (fn2 (Di .i64) (Di .i64) (zce (world n d) n) [.int .i64 t0,.int .i64 t1] h)) (by kernel_rfl) (congrArg (gcR h) (z111 (Di .i64) (Di .i64) _ t0 t1 h))
theorem z37(n d:Nat)(t0:List AV)(h:AHeap):world n (d+1) 29 [.agg t0] h=gcR h (z14 (world n d) n t0 h):=
 Eq.trans (b:=gcR h (fn1 Da (z14 (world n d) n) [.agg t0] h)) (by kernel_rfl) (congrArg (gcR h) (z81 Da _ t0 h))
theorem z1b1(n d:Nat)(t0:AV)(t1:AV)(t2:AV)(h:AHeap):world n (d+1) 36 [t0,t1,t2] h=za8 (world n d) n t0 t1 t2 h:=
 Eq.trans (b:=fn3 Dv Dv Dv (za8 (world n d) n) [t0,t1,t2] h) (by kernel_rfl) (z31f Dv Dv Dv _ t0 t1 t2 h)
theorem z42(n d:Nat)(t0:AV)(t1:Int)(h:AHeap):world n (d+1) 37 [t0,.int .i64 t1] h=z26 (world n d) n t0 t1 h:=
 Eq.trans (b:=fn2 Dv (Di .i64) (z26 (world n d) n) [t0,.int .i64 t1] h) (by kernel_rfl) (z111 Dv (Di .i64) _ t0 t1 h)
theorem z1f5(n d:Nat)(t0:AV)(t1:AV)(h:AHeap):world n (d+1) 44 [t0,t1] h=z7d (world n d) n t0 t1 h:=
 Eq.trans (b:=fn2 Dv Dv (z7d (world n d) n) [t0,t1] h) (by kernel_rfl) (z111 Dv Dv _ t0 t1 h)
theorem zd5(n d:Nat)(t0:AV)(h:AHeap):world n (d+1) 48 [t0] h=z2e (world n d) n t0 h:=
 Eq.trans (b:=fn1 Dv (z2e (world n d) n) [t0] h) (by kernel_rfl) (z81 Dv _ t0 h)
theorem z36(n d:Nat)(t0:AV)(h:AHeap):world n (d+1) 45 [t0] h=z20 (world n d) n t0 h:=
 Eq.trans (b:=fn1 Dv (z20 (world n d) n) [t0] h) (by kernel_rfl) (z81 Dv _ t0 h)
theorem zc7(n d:Nat)(t0:AV)(h:AHeap):world n (d+1) 46 [t0] h=z2b (world n d) n t0 h:=
 Eq.trans (b:=fn1 Dv (z2b (world n d) n) [t0] h) (by kernel_rfl) (z81 Dv _ t0 h)
theorem z15f(n d:Nat)(t0:AV)(h:AHeap):world n (d+1) 55 [t0] h=z39 (world n d) n t0 h:=
 Eq.trans (b:=fn1 Dv (z39 (world n d) n) [t0] h) (by kernel_rfl) (z81 Dv _ t0 h)
theorem z3c(n d:Nat)(t0:AV)(h:AHeap):world n (d+1) 60 [t0] h=z1e (world n d) n t0 h:=
 Eq.trans (b:=fn1 Dv (z1e (world n d) n) [t0] h) (by kernel_rfl) (z81 Dv _ t0 h)
theorem z24(n d:Nat)(t0:AV)(h:AHeap):world n (d+1) 61 [t0] h=z1c (world n d) n t0 h:=
 Eq.trans (b:=fn1 Dv (z1c (world n d) n) [t0] h) (by kernel_rfl) (z81 Dv _ t0 h)
theorem z106(n d:Nat)(t0:AV)(h:AHeap):world n (d+1) 63 [t0] h=z3b (world n d) n t0 h:=
 Eq.trans (b:=fn1 Dv (z3b (world n d) n) [t0] h) (by kernel_rfl) (z81 Dv _ t0 h)
theorem z5c(n d:Nat)(t0:AV)(t1:AV)(h:AHeap):world n (d+1) 65 [t0,t1] h=z29 (world n d) n t0 t1 h:=
 Eq.trans (b:=fn2 Dv Dv (z29 (world n d) n) [t0,t1] h) (by kernel_rfl) (z111 Dv Dv _ t0 t1 h)
theorem z43(n d:Nat)(t0:AV)(h:AHeap):world n (d+1) 66 [t0] h=z1f (world n d) n t0 h:=
 Eq.trans (b:=fn1 Dv (z1f (world n d) n) [t0] h) (by kernel_rfl) (z81 Dv _ t0 h)
theorem z25b(n d:Nat)(t0:AV)(t1:Int)(t2:Int)(h:AHeap):world n (d+1) 58 [t0,.int .u8 t1,.int .u8 t2] h=zb1 (world n d) n t0 t1 t2 h:=
 Eq.trans (b:=fn3 Dv (Di .u8) (Di .u8) (zb1 (world n d) n) [t0,.int .u8 t1,.int .u8 t2] h) (by kernel_rfl) (z31f Dv (Di .u8) (Di .u8) _ t0 t1 t2 h)
theorem z259(n d:Nat)(t0:Int)(h:AHeap):world n (d+1) 54 [.int .u8 t0] h=gcR h (z92 (world n d) n t0 h):=
 Eq.trans (b:=gcR h (fn1 (Di .u8) (z92 (world n d) n) [.int .u8 t0] h)) (by kernel_rfl) (congrArg (gcR h) (z81 (Di .u8) _ t0 h))
theorem z25a(n d:Nat)(h:AHeap):world n (d+1) 53 [] h=gcR h (z93 (world n d) n h):=
 Eq.trans (b:=gcR h (fn0 (z93 (world n d) n) [] h)) (by kernel_rfl) (congrArg (gcR h) (fn0_eq _ h))
theorem z2ec(n d:Nat)(t0:Int)(t1:AV)(h:AHeap):world n (d+1) 52 [.int .i64 t0,t1] h=z108 (world n d) n t0 t1 h:=
 Eq.trans (b:=fn2 (Di .i64) Dv (z108 (world n d) n) [.int .i64 t0,t1] h) (by kernel_rfl) (z111 (Di .i64) Dv _ t0 t1 h)
theorem z161(n d:Nat)(t0:AV)(h:AHeap):world n (d+1) 50 [t0] h=za0 (world n d) n t0 h:=
 Eq.trans (b:=fn1 Dv (za0 (world n d) n) [t0] h) (by kernel_rfl) (z81 Dv _ t0 h)
theorem z40c(n d:Nat)(t0:List AV)(h:AHeap):world n (d+1) 23 [.agg t0] h=gcR h (z204 (world n d) n t0 h):=
 Eq.trans (b:=gcR h (fn1 Da (z204 (world n d) n) [.agg t0] h)) (by kernel_rfl) (congrArg (gcR h) (z81 Da _ t0 h))
theorem z2aa(n d:Nat)(t0:AV)(h:AHeap):world n (d+1) 25 [t0] h=zec (world n d) n t0 h:=
 Eq.trans (b:=fn1 Dv (zec (world n d) n) [t0] h) (by kernel_rfl) (z81 Dv _ t0 h)
theorem z2ef(n d:Nat)(t0:AV)(h:AHeap):world n (d+1) 28 [t0] h=z10c (world n d) n t0 h:=
 Eq.trans (b:=fn1 Dv (z10c (world n d) n) [t0] h) (by kernel_rfl) (z81 Dv _ t0 h)
theorem z2f0(n d:Nat)(t0:AV)(h:AHeap):world n (d+1) 27 [t0] h=z10d (world n d) n t0 h:=
 Eq.trans (b:=fn1 Dv (z10d (world n d) n) [t0] h) (by kernel_rfl) (z81 Dv _ t0 h)
theorem z2ee(n d:Nat)(t0:AV)(t1:Int)(h:AHeap):world n (d+1) 26 [t0,.int .u8 t1] h=z10b (world n d) n t0 t1 h:=
 Eq.trans (b:=fn2 Dv (Di .u8) (z10b (world n d) n) [t0,.int .u8 t1] h) (by kernel_rfl) (z111 Dv (Di .u8) _ t0 t1 h)
theorem z2ed(n d:Nat)(t0:AV)(h:AHeap):world n (d+1) 33 [t0] h=z10a (world n d) n t0 h:=
 Eq.trans (b:=fn1 Dv (z10a (world n d) n) [t0] h) (by kernel_rfl) (z81 Dv _ t0 h)
theorem z28d(n d:Nat)(t0:AV)(t1:Int)(h:AHeap):world n (d+1) 34 [t0,.int .u64 t1] h=zcf (world n d) n t0 t1 h:=
 Eq.trans (b:=fn2 Dv (Di .u64) (zcf (world n d) n) [t0,.int .u64 t1] h) (by kernel_rfl) (z111 Dv (Di .u64) _ t0 t1 h)
theorem z162(n d:Nat)(t0:Int)(h:AHeap):world n (d+1) 42 [.int .u64 t0] h=gcR h (z31 (world n d) n t0 h):=
 Eq.trans (b:=gcR h (fn1 (Di .u64) (z31 (world n d) n) [.int .u64 t0] h)) (by kernel_rfl) (congrArg (gcR h) (z81 (Di .u64) _ t0 h))
theorem z20c(n d:Nat)(t0:AV)(t1:List AV)(h:AHeap):world n (d+1) 30 [t0,.agg t1] h=z1d (world n d) n t0 t1 h:=
 Eq.trans (b:=fn2 Dv Da (z1d (world n d) n) [t0,.agg t1] h) (by kernel_rfl) (z111 Dv Da _ t0 t1 h)
theorem z20b(n d:Nat)(t0:AV)(t1:List AV)(h:AHeap):world n (d+1) 38 [t0,.agg t1] h=z8d (world n d) n t0 t1 h:=
 Eq.trans (b:=fn2 Dv Da (z8d (world n d) n) [t0,.agg t1] h) (by kernel_rfl) (z111 Dv Da _ t0 t1 h)
theorem z1f7(n d:Nat)(t0:AV)(t1:List AV)(t2:List AV)(h:AHeap):world n (d+1) 39 [t0,.agg t1,.agg t2] h=z7f (world n d) n t0 t1 t2 h:=
 Eq.trans (b:=fn3 Dv Da Da (z7f (world n d) n) [t0,.agg t1,.agg t2] h) (by kernel_rfl) (z31f Dv Da Da _ t0 t1 t2 h)
theorem z1f6(n d:Nat)(t0:AV)(t1:Int)(t2:Int)(h:AHeap):world n (d+1) 40 [t0,.int .u64 t1,.int .u64 t2] h=z7e (world n d) n t0 t1 t2 h:=
 Eq.trans (b:=fn3 Dv (Di .u64) (Di .u64) (z7e (world n d) n) [t0,.int .u64 t1,.int .u64 t2] h) (by kernel_rfl) (z31f Dv (Di .u64) (Di .u64) _ t0 t1 t2 h)
theorem z2f2(n d:Nat)(t0:AV)(h:AHeap):world n (d+1) 31 [t0] h=z10f (world n d) n t0 h:=
 Eq.trans (b:=fn1 Dv (z10f (world n d) n) [t0] h) (by kernel_rfl) (z81 Dv _ t0 h)
theorem z2a9(n d:Nat)(t0:AV)(t1:Int)(h:AHeap):world n (d+1) 41 [t0,.int .u64 t1] h=zeb (world n d) n t0 t1 h:=
 Eq.trans (b:=fn2 Dv (Di .u64) (zeb (world n d) n) [t0,.int .u64 t1] h) (by kernel_rfl) (z111 Dv (Di .u64) _ t0 t1 h)
theorem z336(n d:Nat)(t0:AV)(t1:z11)(h:AHeap):world n (d+1) 11 [t0,z19 t1] h=z129 (world n d) n t0 t1 h:=
 Eq.trans (b:=fn2 Dv Ds (z129 (world n d) n) [t0,z19 t1] h) (by kernel_rfl) (z111 Dv Ds _ t0 t1 h)
theorem z1fe(n d:Nat)(t0:AV)(h:AHeap):world n (d+1) 18 [t0] h=ze3 (world n d) n t0 h:=
 Eq.trans (b:=fn1 Dv (ze3 (world n d) n) [t0] h) (by kernel_rfl) (z81 Dv _ t0 h)
theorem z370(n d:Nat)(t0:AV)(t1:Int)(t2:Int)(h:AHeap):world n (d+1) 14 [t0,.int .u8 t1,.int .i64 t2] h=z159 (world n d) n t0 t1 t2 h:=
 Eq.trans (b:=fn3 Dv (Di .u8) (Di .i64) (z159 (world n d) n) [t0,.int .u8 t1,.int .i64 t2] h) (by kernel_rfl) (z31f Dv (Di .u8) (Di .i64) _ t0 t1 t2 h)
theorem z28e(n d:Nat)(t0:AV)(t1:Int)(t2:Int)(h:AHeap):world n (d+1) 20 [t0,.int .u8 t1,.int .i64 t2] h=zd0 (world n d) n t0 t1 t2 h:=
 Eq.trans (b:=fn3 Dv (Di .u8) (Di .i64) (zd0 (world n d) n) [t0,.int .u8 t1,.int .i64 t2] h) (by kernel_rfl) (z31f Dv (Di .u8) (Di .i64) _ t0 t1 t2 h)
theorem z28f(n d:Nat)(t0:AV)(t1:Int)(h:AHeap):world n (d+1) 21 [t0,.int .i64 t1] h=zd1 (world n d) n t0 t1 h:=
 Eq.trans (b:=fn2 Dv (Di .i64) (zd1 (world n d) n) [t0,.int .i64 t1] h) (by kernel_rfl) (z111 Dv (Di .i64) _ t0 t1 h)
theorem z2a8(n d:Nat)(t0:List AV)(h:AHeap):world n (d+1) 24 [.agg t0] h=gcR h (zc0 (world n d) n t0 h):=
 Eq.trans (b:=gcR h (fn1 Da (zc0 (world n d) n) [.agg t0] h)) (by kernel_rfl) (congrArg (gcR h) (z81 Da _ t0 h))
theorem z2a7(n d:Nat)(t0:List AV)(h:AHeap):world n (d+1) 32 [.agg t0] h=gcR h (zbf (world n d) n t0 h):=
 Eq.trans (b:=gcR h (fn1 Da (zbf (world n d) n) [.agg t0] h)) (by kernel_rfl) (congrArg (gcR h) (z81 Da _ t0 h))
theorem z2ab(n d:Nat)(t0:AV)(h:AHeap):world n (d+1) 8 [t0] h=z169 (world n d) n t0 h:=
 Eq.trans (b:=fn1 Dv (z169 (world n d) n) [t0] h) (by kernel_rfl) (z81 Dv _ t0 h)
theorem z144(n d:Nat)(t0:AV)(t1:z11)(h:AHeap):world n (d+1) 5 [t0,z19 t1] h=z62 (world n d) n t0 t1 h:=
 Eq.trans (b:=fn2 Dv Ds (z62 (world n d) n) [t0,z19 t1] h) (by kernel_rfl) (z111 Dv Ds _ t0 t1 h)
theorem z1f8(n d:Nat)(t0:AV)(t1:Int)(h:AHeap):world n (d+1) 13 [t0,.int .u8 t1] h=z80 (world n d) n t0 t1 h:=
 Eq.trans (b:=fn2 Dv (Di .u8) (z80 (world n d) n) [t0,.int .u8 t1] h) (by kernel_rfl) (z111 Dv (Di .u8) _ t0 t1 h)
theorem z1c7(n d:Nat)(t0:AV)(h:AHeap):world n (d+1) 15 [t0] h=z73 (world n d) n t0 h:=
 Eq.trans (b:=fn1 Dv (z73 (world n d) n) [t0] h) (by kernel_rfl) (z81 Dv _ t0 h)
theorem z22b(n d:Nat)(t0:AV)(t1:Int)(h:AHeap):world n (d+1) 19 [t0,.int .i64 t1] h=z9f (world n d) n t0 t1 h:=
 Eq.trans (b:=fn2 Dv (Di .i64) (z9f (world n d) n) [t0,.int .i64 t1] h) (by kernel_rfl) (z111 Dv (Di .i64) _ t0 t1 h)
theorem z123(n d:Nat)(t0:AV)(h:AHeap):world n (d+1) 6 [t0] h=z48 (world n d) n t0 h:=
 Eq.trans (b:=fn1 Dv (z48 (world n d) n) [t0] h) (by kernel_rfl) (z81 Dv _ t0 h)
theorem z371(n d:Nat)(t0:z11)(h:AHeap):world n (d+1) 12 [z19 t0] h=gcR h (z15a (world n d) n t0 h):=
 Eq.trans (b:=gcR h (fn1 Ds (z15a (world n d) n) [z19 t0] h)) (by kernel_rfl) (congrArg (gcR h) (z81 Ds _ t0 h))
theorem z337(n d:Nat)(h:AHeap):world n (d+1) 4 [] h=gcR h (z102 (world n d) n h):=
 Eq.trans (b:=gcR h (fn0 (z102 (world n d) n) [] h)) (by kernel_rfl) (congrArg (gcR h) (fn0_eq _ h))
theorem z145(n d:Nat)(t0:AV)(h:AHeap):world n (d+1) 7 [t0] h=z63 (world n d) n t0 h:=
 Eq.trans (b:=fn1 Dv (z63 (world n d) n) [t0] h) (by kernel_rfl) (z81 Dv _ t0 h)
theorem z20d(n d:Nat)(t0:AV)(h:AHeap):world n (d+1) 17 [t0] h=z8f (world n d) n t0 h:=
 Eq.trans (b:=fn1 Dv (z8f (world n d) n) [t0] h) (by kernel_rfl) (z81 Dv _ t0 h)
theorem z2f1(n d:Nat)(t0:AV)(h:AHeap):world n (d+1) 22 [t0] h=z10e (world n d) n t0 h:=
 Eq.trans (b:=fn1 Dv (z10e (world n d) n) [t0] h) (by kernel_rfl) (z81 Dv _ t0 h)
theorem z15e(n d:Nat)(t0:AV)(h:AHeap):world n (d+1) 16 [t0] h=z38 (world n d) n t0 h:=
 Eq.trans (b:=fn1 Dv (z38 (world n d) n) [t0] h) (by kernel_rfl) (z81 Dv _ t0 h)
theorem z3c7(n d:Nat)(t0:AV)(t1:AV)(h:AHeap):world n (d+1) 9 [t0,t1] h=z18e (world n d) n t0 t1 h:=
 Eq.trans (b:=fn2 Dv Dv (z18e (world n d) n) [t0,t1] h) (by kernel_rfl) (z111 Dv Dv _ t0 t1 h)
theorem z372(n d:Nat)(t0:AV)(t1:AV)(h:AHeap):world n (d+1) 10 [t0,t1] h=z15c (world n d) n t0 t1 h:=
 Eq.trans (b:=fn2 Dv Dv (z15c (world n d) n) [t0,t1] h) (by kernel_rfl) (z111 Dv Dv _ t0 t1 h)
def at?(u:z11)(p:Nat):Option Nat:=(u[p]?).map UInt8.toNat
theorem at?_lt{u:z11}{p:Nat}(h:p<u.length):at? u p=some (u[p]).toNat:=by
 unfold at?
 rw[List.getElem?_eq_getElem h];rfl
theorem at?_ge{u:z11}{p:Nat}(h:u.length≤p):at? u p=none:=by
 unfold at?
 rw[List.getElem?_eq_none h];rfl
theorem at?_some{u:z11}{p c:Nat}(h:at? u p=some c):∃hp:p<u.length,(u[p]).toNat=c:=by
 by_cases hp:p<u.length
 ·rw [at?_lt hp] at h
  exact⟨hp,by simpa using h⟩
 ·rw [at?_ge (by omega)] at h
  cases h
theorem Wp.panK{Q:ARes→AHeap→Prop}{h:AHeap}{t:TypeId}{v:AV}(hq:Q (.panic (.ifc t v)) h):Wp (panK (.ifc t v) h) Q:=⟨_,_,rfl,hq⟩
noncomputable def rdP(u:z11)(p:Nat):List AV:=[z19 u,.int .i64 (p:Int)]
abbrev Rd(h:AHeap)(b:Nat)(u:z11)(p:Nat):Prop:=RowH h b 97 (rdP u p)
def z28a(e:Int)(q:Nat):AV:=.ifc 106 (.agg [.int .i64 e,.int .i64 (q:Int)])
theorem bldWrong(e q:Int):z252 Tryd.prog 106 [(0,.agg [.int .i64 e,.int .i64 q])]=some [.int .i64 e,.int .i64 q]:=by kernel_rfl
def Step(b:Nat)(u:z11)(h:AHeap)(x:R):Except (Int×Nat) (AV×Nat)→Prop
 | .ok (v,p)=>∃h',x=some (.ret v,h')∧Rd h' b u p∧Tch [b] h h'
 | .error (e,q)=>∃h' p,x=some (.panic (z28a e q),h')∧Rd h' b u p∧Tch [b] h h'
section
variable {n d b p:Nat}{h:AHeap}{u:z11}{Q:ARes→AHeap→Prop}
theorem z183(k:Rd h b u p):world n (d+1) 49 [.ptr b 0] h=some (.ret (.bool (decide (p=u.length))),h):=by
 apply Wp.eq;rw[z1bc];unfold z67;have ll:=z6a u
 repeat(first|(with_reducible refine Wp.lett ?_)|((with_reducible apply Wp.obind);first|(with_reducible first|exact z5 _ _|exact z47 _|exact z12 _ _|exact z8 _ _ _)|((with_reducible apply y5);(with_reducible assumption);rfl)))
 refine Wp.ret ⟨?_,rfl⟩
 by_cases hp:p=u.length
 ·rw[z88 (by omega),decide_eq_true hp]
 ·rw[z99 (by omega),decide_eq_false hp]
theorem z29e(e:Int)(q:Nat):world n (d+1) 57 [.int .i64 e,.int .i64 (q:Int)] h=some (.panic (z28a e q),h):=by
 rw[z28c];refine(congrArg (gcR h) ?_).trans gcR_self;unfold zce;rw[bldWrong,z165];rfl
theorem z1ca(k:Rd h b u (p+1))(hp:p+1≤u.length)(hu:u.length≤1000000):world n (d+2) 64 [.ptr b 0] h=some (.panic (z28a 6 p),h):=by
 apply Wp.eq;rw[z160];unfold z3a;have k0:RowH h b 97 [z19 u,.int .i64 ((p+1:Nat):Int)]:=k;clear k;have hr:=z29e (n:=n) (d:=d) (h:=h) 6 p;rw[show (p:Int)=((p+1:Nat):Int) - 1 by omega] at hr
 repeat(first|((with_reducible refine yf ?_ ?_ ?_);omega;omega)|((with_reducible apply Wp.obind);first|(with_reducible first|exact z5 _ _|exact z12 _ _|exact z8 _ _ _)|((with_reducible apply y5);(with_reducible assumption);rfl)))
 exact y19 hr ⟨rfl,rfl⟩
theorem z2b3(k:Rd h b u p)(hp:p≤u.length)(c:Nat):world n (d+2) 59 [.ptr b 0,.int .u8 (c:Int)] h=some (.ret (.bool (decide (at? u p=some c))),h):=by
 apply Wp.eq;rw[z1c5];unfold z72;have he:=z183 (n:=n) (d:=d) k
 by_cases hl:p=u.length
 ·rw [decide_eq_true hl] at he
  rw[at?_ge (by omega)]
  repeat(with_reducible first|refine yc (fun _ _=>?_)|refine Wp.lett ?_|(apply Wp.obind;exact z6 _)|(refine y7 ?_ ?_;exact Bool.not_true)|(apply Wp.callN;assumption)|refine ye (by assumption) ?_)
  exact Wp.ret ⟨rfl,rfl⟩
 ·rw [decide_eq_false hl] at he
  have hx:=z2a1 (l:=u) (i:=p) (by omega);rw[at?_lt (by omega)]
  repeat(first|(with_reducible first|refine yc (fun _ _=>?_)|refine Wp.lett ?_)|((with_reducible apply Wp.obind);first|(with_reducible first|exact hx|exact z5 _ _|exact z6 _|exact z47 _|exact z12 _ _|exact z8 _ _ _)|((with_reducible apply y5);(with_reducible assumption);rfl))|(with_reducible first|(refine y8 ?_ ?_;exact Bool.not_false)|(apply Wp.callN;assumption)|refine ye (by assumption) ?_))
  refine Wp.ret ⟨?_,rfl⟩
  by_cases hc:(u[p]'(by omega)).toNat=c
  ·rw[z88 (by omega),decide_eq_true (by rw[hc])]
  ·rw[z99 (by omega),decide_eq_false (fun hh=>hc (by simpa using hh))]
theorem z9c(k:Rd h b u p)(hb:b<h.next)(hp:p≤u.length)(hu:u.length≤1000000)(c:Nat):Step b u h (world n (d+3) 56 [.ptr b 0,.int .u8 (c:Int)] h) (.ok (.bool (decide (at? u p=some c)),if at? u p=some c then p+1 else p)):=by
 apply Wp.ex;rw[z1bb];unfold z66;have hs:=z2b3 (n:=n) (d:=d) k hp c;have Mx:=Mem.one k hb
 by_cases hc:at? u p=some c
 ·rw [decide_eq_true hc] at hs ⊢
  rw[if_pos hc]
  repeat(first|(with_reducible apply Wp.obind;first|exact z5 _ _|exact z6 _|exact z12 _ _|exact z8 _ _ _)|((with_reducible apply y21 Mx);rfl)|((with_reducible apply y41 Mx);exact Nat.le_of_ble_eq_true rfl;rfl;clear Mx;intro _ Mx)|((with_reducible refine yf ?_ ?_ ?_);omega;omega)|(with_reducible first|refine Wp.lett ?_|(refine y7 ?_ ?_;exact Bool.not_true)|(apply Wp.callN;assumption)))
  have e:(rdP u p).set (0+1) (.int .i64 ((p:Int)+1))=rdP u (p+1):=by
   rw[show (p:Int)+1=((p+1:Nat):Int) by omega];rfl
  rw[e] at Mx;exact Wp.ret ⟨rfl,Mx.at0.1,Mx.tch⟩
 ·rw [decide_eq_false hc] at hs ⊢
  rw[if_neg hc]
  repeat(with_reducible first|refine Wp.lett ?_|(apply Wp.obind;exact z6 _)|(refine y8 ?_ ?_;exact Bool.not_false)|(apply Wp.callN;assumption))
  exact Wp.ret ⟨rfl,k,Tch.refl _ _⟩
theorem zbd(k:Rd h b u p)(hb:b<h.next)(hp:p≤u.length)(hu:u.length≤1000000):Step b u h (world n (d+2) 51 [.ptr b 0] h) (match at? u p with
  |some c=>.ok (.int .u8 (c:Int),p+1)
  |none=>.error (6,p)):=by
 have he:=z183 (n:=n) (d:=d) k
 by_cases hl:p=u.length
 ·rw [at?_ge (by omega)]
  rw[decide_eq_true hl] at he;refine⟨h,p,?_,k,Tch.refl _ _⟩;have hr:=z29e (n:=n) (d:=d) (h:=h) 6 p
  have:Wp (world n (d+2) 51 [.ptr b 0] h) fun r h'=>r=.panic (z28a 6 p)∧h'=h:=by
   rw[z135];unfold z55
   repeat(first|(with_reducible refine y10 (fun _ _=>?_))|((with_reducible apply Wp.obind);first|(with_reducible first|exact z5 _ _|exact z6 _|exact z12 _ _|exact z8 _ _ _)|((with_reducible apply y5);(with_reducible assumption);rfl))|(with_reducible refine y8 ?_ ?_;rfl)|((with_reducible first|apply Wp.callN|apply Wp.callK);(with_reducible assumption)))
   exact y19 hr ⟨rfl,rfl⟩
  exact this.eq
 ·rw [decide_eq_false hl] at he
  rw[at?_lt (by omega)];show ∃h',_∧_;apply Wp.ex;rw[z135];unfold z55;have Mx:=Mem.one k hb;have hx:=z2a1 (l:=u) (i:=p) (by omega)
  repeat(first|(with_reducible apply Wp.obind;first|exact z5 _ _|exact z6 _|exact z47 _|exact z12 _ _|exact z8 _ _ _)|((with_reducible apply y21 Mx);rfl)|((with_reducible apply y41 Mx);exact Nat.le_of_ble_eq_true rfl;rfl;clear Mx;intro _ Mx)|(with_reducible refine y10 (fun _ _=>?_))|((with_reducible refine yf ?_ ?_ ?_);omega;omega)|(with_reducible first|(refine y7 ?_ ?_;rfl)|(apply Wp.callN;assumption)|refine y26 (by assumption) ?_))
  have e:(rdP u p).set (0+1) (.int .i64 ((p:Int)+1))=rdP u (p+1):=by
   rw[show (p:Int)+1=((p+1:Nat):Int) by omega];rfl
  rw[e] at Mx;have e2:((p:Int)+1) - 1=(p:Int):=by omega
  rw[e2]
  repeat(((with_reducible apply Wp.obind);(with_reducible exact hx)))
  exact Wp.ret ⟨rfl,Mx.at0.1,Mx.tch⟩
end
def addW(w:List Nat)(c:Nat):List Nat:=w.set (c/64) (w.getD (c/64) 0|||2 ^ (c%64))
def z22e(w:List Nat)(lo:Nat):Nat→List Nat
 |0=>w
 |m+1=>z22e (addW w lo) (lo+1) m
def z180(w:List Nat):List Nat:=w.map fun x=>x ^^^ 18446744073709551615
def z9b:List Nat:=[0,0,0,0]
structure WordsOk (w:List Nat):Prop where
 len:w.length=4
 small:∀x∈w,x<18446744073709551616
theorem WordsOk.get{w:List Nat}(k:WordsOk w)(i:Nat):w.getD i 0<18446744073709551616:=by
 rw[List.getD_eq_getElem?_getD];cases hx:w[i]? with
 |none=>decide
 |some x=>exact k.small x (List.mem_of_getElem? hx)
theorem z89:WordsOk z9b:=⟨rfl,by decide⟩
theorem zd6{a b:Nat}(ha:a<18446744073709551616)(hb:b<18446744073709551616):a|||b<18446744073709551616:=by
 have:=Nat.or_lt_two_pow (n:=64) (x:=a) (y:=b) (by omega) (by omega);omega
theorem z188{k:Nat}(h:k<64):2 ^ k<18446744073709551616:=by
 have:=Nat.pow_lt_pow_right (a:=2) (by decide) h;omega
theorem addW_ok{w:List Nat}(k:WordsOk w)(c:Nat):WordsOk (addW w c):=by
 refine⟨by simp[addW,k.len],fun x hx=>?_⟩;unfold addW at hx
 rcases List.mem_or_eq_of_mem_set hx with hx|rfl
 ·exact k.small x hx
 ·exact zd6 (k.get _) (z188 (Nat.mod_lt _ (by decide)))
theorem z12f:∀(m:Nat) {w:List Nat} (_:WordsOk w) (lo:Nat),WordsOk (z22e w lo m)
 |0,_,k,_=>k
 |m+1,_,k,lo=>z12f m (addW_ok k lo) (lo+1)
theorem z310{w:List Nat}(k:WordsOk w):WordsOk (z180 w):=by
 refine⟨by simp[z180,k.len],fun x hx=>?_⟩;unfold z180 at hx;obtain⟨y,hy,rfl⟩:=List.mem_map.1 hx;have:=Nat.xor_lt_two_pow (n:=64) (x:=y) (y:=18446744073709551615) (by have:=k.small y hy;omega) (by omega);omega
noncomputable def z22(w:List Nat):List AV:=w.map fun (x:Nat)=>AV.int .u64 (x:Int)
theorem z65(w:List Nat):(z22 w).length=w.length:=by simp[z22]
theorem z1e0(w:List Nat):(z22 w).all AV.one=true:=by
 simp only[z22,List.all_map,List.all_eq_true];intro x _;rfl
inductive Nd where
 |mk (op:Nat) (w:List Nat) (kids:List Nd)
abbrev z28:Nat:=79
noncomputable def z96(op:Nat)(w:List Nat)(kv:AV):List AV:=.int .i64 (op:Int)::(z22 w++[kv])
mutual
inductive NodeT:Nd→List AV→List ze7→Prop
 |mk {op:Nat} {w:List Nat} {kids:List Nd} {kc:List (List AV)} {kv:AV} {T0 T1:List ze7} (hw:WordsOk w) (g:GrowT z28 6 kc kv T0) (k:KidsT kids kc T1):NodeT (.mk op w kids) (z96 op w kv) (T0++T1)
inductive KidsT:List Nd→List (List AV)→List ze7→Prop
 |nil:KidsT [] [] []
 |cons {t:Nd} {c:List AV} {T:List ze7} {ts:List Nd} {cs:List (List AV)} {Ts:List ze7} (k:NodeT t c T) (ks:KidsT ts cs Ts):KidsT (t::ts) (c::cs) (T++Ts)
end
theorem y53{t:Nd}{c:List AV}{T:List ze7}(h:NodeT t c T):∀{ts:List Nd} {cs:List (List AV)} {Ts:List ze7},KidsT ts cs Ts→KidsT (ts++[t]) (cs++[c]) (Ts++T)
 |_,_,_,.nil=>by
  have:=KidsT.cons h .nil;rw[List.append_nil] at this;exact this
 |_,_,_,.cons k ks=>by
  have:=KidsT.cons k (y53 h ks);rw[←List.append_assoc] at this;exact this
theorem KidsT.len:∀{ts:List Nd} {cs:List (List AV)} {Ts:List ze7},KidsT ts cs Ts→cs.length=ts.length
 |_,_,_,.nil=>rfl
 |_,_,_,.cons _ ks=>by rw[List.length_cons,List.length_cons,ks.len]
theorem KidsT.one{t:Nd}{cs:List (List AV)}{Ts:List ze7}(h:KidsT [t] cs Ts):∃c,cs=[c]∧NodeT t c Ts:=by
 cases h with
 |cons k ks=>
  cases ks
  refine⟨_,rfl,?_⟩;rw[List.append_nil];exact k
theorem NodeT.len{t:Nd}{c:List AV}{T:List ze7}(h:NodeT t c T):c.length=6:=by
 cases h with
 |mk hw g k=>simp[z96,z65,hw.len]
theorem NodeT.one{t:Nd}{c:List AV}{T:List ze7}(h:NodeT t c T):c.all AV.one=true:=by
 cases h with
 |mk hw g k=>
  simp only[z96,List.all_cons,List.all_append,z1e0,g.one.1,List.all_nil,Bool.and_true];rfl
theorem y23(op:Nat){w:List Nat}(hw:WordsOk w):NodeT (.mk op w []) (z96 op w .nsl) []:=NodeT.mk (T0:=[]) (T1:=[]) hw (GrowT.nil _ _) .nil
def z3c3(c:Nat):Nd:=.mk 2 (z22e z9b c 1) []
def anyW:List Nat:=z22e z9b 0 256
theorem z366:WordsOk anyW:=z12f 256 z89 0
theorem anyW_eq:z22e z9b 0 (255+1 - 0)=anyW:=rfl
attribute [irreducible] anyW
def anyN:Nd:=.mk 2 anyW []
def z389(op:Nat)(l:List Nd):Nd:=.mk op z9b l
def z222(op:Nat):List Nd→Nd
 |[]=>.mk 1 z9b []
 |[t]=>t
 |l=>z389 op l
def z2f6(u:z11)(i:Nat):Except Nat (Nat×Nat):=match at? u i with
 |none=>.error i
 | some c => if c = 92 then (match at? u (i + 1) with
   |none=>.error (i+1)
   |some e=>.ok (e,i+2))
  else if c=91∨c=93∨c=94∨c=45 then .error i else .ok (c,i+1)
def z118(u:z11)(w:List Nat)(i:Nat):Except Nat (List Nat×Nat):=match z2f6 u i with
 | .error q=>.error q
 | .ok (c, j) => if at? u j = some 45 then (match z2f6 u (j + 1) with
   | .error q=>.error q
   | .ok (e,k)=>if e<c then .error (k - 1) else .ok (z22e w c (e+1 - c),k))
  else .ok (z22e w c 1,j)
inductive LoopP (u:z11):List Nat→Nat→Except Nat (List Nat×Nat)→Prop
 |done {w:List Nat} {j:Nat} (n:at? u j=some 93):LoopP u w j (.ok (w,j+1))
 |bad {w:List Nat} {j q:Nat} (n:at? u j≠some 93) (h:z118 u w j=.error q):LoopP u w j (.error q)
 |more {w w':List Nat} {j k:Nat} {r:Except Nat (List Nat×Nat)} (n:at? u j≠some 93) (h:z118 u w j=.ok (w',k)) (m:LoopP u w' k r):LoopP u w j r
def z48b(u:z11)(i:Nat):Nat:=if at? u i=some 94 then i+1 else i
def z49d(u:z11)(i:Nat):Except Nat (List Nat×Nat)→Except Nat (List Nat×Nat)
 | .ok (w,j)=>.ok (if at? u i=some 94 then z180 w else w,j)
 | .error q=>.error q
inductive SetP (u:z11) (i:Nat):Except Nat (List Nat×Nat)→Prop
 |bad {q:Nat} (h:z118 u z9b (z48b u i)=.error q):SetP u i (.error q)
 |set {w:List Nat} {j:Nat} {r:Except Nat (List Nat×Nat)} (h:z118 u z9b (z48b u i)=.ok (w,j)) (m:LoopP u w j r):SetP u i (z49d u i r)
def z412:Nat→Nat
 |42=>5
 |43=>6
 |63=>7
 |_=>0
def z1c8(u:z11)(j:Nat):Nat:=match at? u j with
 |some c=>z412 c
 |none=>0
def z11e(c:Nat):Prop:=c=124∨c=41∨c=42∨c=43∨c=63∨c=93
def z448(u:z11)(i:Nat):Prop:=at? u i=none∨at? u i=some 124∨at? u i=some 41
abbrev Res:=Except Nat (Nd×Nat)
mutual
inductive AltP (u:z11):List Nd→Nat→Res→Prop
 |bad {l:List Nd} {i q:Nat} (h:RowP u [] i (.error q)):AltP u l i (.error q)
 |last {l:List Nd} {i j:Nat} {t:Nd} (h:RowP u [] i (.ok (t,j))) (n:at? u j≠some 124):AltP u l i (.ok (z222 4 (l++[t]),j))
 |more {l:List Nd} {i j:Nat} {t:Nd} {r:Res} (h:RowP u [] i (.ok (t,j))) (n:at? u j=some 124) (m:AltP u (l++[t]) (j+1) r):AltP u l i r
inductive RowP (u:z11):List Nd→Nat→Res→Prop
 |stop {l:List Nd} {i:Nat} (s:z448 u i):RowP u l i (.ok (z222 3 l,i))
 |bad {l:List Nd} {i q:Nat} (s:¬z448 u i) (h:PartP u i (.error q)):RowP u l i (.error q)
 |more {l:List Nd} {i j:Nat} {t:Nd} {r:Res} (s:¬z448 u i) (h:PartP u i (.ok (t,j))) (m:RowP u (l++[t]) j r):RowP u l i r
inductive PartP (u:z11):Nat→Res→Prop
 |bad {i q:Nat} (h:AtomP u i (.error q)):PartP u i (.error q)
 |bare {i j:Nat} {t:Nd} (h:AtomP u i (.ok (t,j))) (n:z1c8 u j=0):PartP u i (.ok (t,j))
 |sign {i j:Nat} {t:Nd} (h:AtomP u i (.ok (t,j))) (n:z1c8 u j≠0):PartP u i (.ok (z389 (z1c8 u j) [t],j+1))
inductive AtomP (u:z11):Nat→Res→Prop
 |none {i:Nat} (h:at? u i=none):AtomP u i (.error i)
 |open_bad {i q:Nat} (h:at? u i=some 40) (m:AltP u [] (i+1) (.error q)):AtomP u i (.error q)
 |open_end {i j:Nat} {t:Nd} (h:at? u i=some 40) (m:AltP u [] (i+1) (.ok (t,j))) (n:at? u j≠some 41):AtomP u i (.error j)
 |group {i j:Nat} {t:Nd} (h:at? u i=some 40) (m:AltP u [] (i+1) (.ok (t,j))) (n:at? u j=some 41):AtomP u i (.ok (t,j+1))
 |any {i:Nat} (h:at? u i=some 46):AtomP u i (.ok (anyN,i+1))
 |set_bad {i q:Nat} (h:at? u i=some 91) (m:SetP u (i+1) (.error q)):AtomP u i (.error q)
 |set {i j:Nat} {w:List Nat} (h:at? u i=some 91) (m:SetP u (i+1) (.ok (w,j))):AtomP u i (.ok (.mk 2 w [],j))
 |sl_end {i:Nat} (h:at? u i=some 92) (n:at? u (i+1)=Option.none):AtomP u i (.error (i+1))
 |sl {i c:Nat} (h:at? u i=some 92) (n:at? u (i+1)=some c):AtomP u i (.ok (z3c3 c,i+2))
 |bad {i c:Nat} (h:at? u i=some c) (b:z11e c):AtomP u i (.error i)
 |one {i c:Nat} (h:at? u i=some c) (b:¬z11e c) (n:c≠40∧c≠46∧c≠91∧c≠92):AtomP u i (.ok (z3c3 c,i+1))
end
def StepN(b:Nat)(u:z11)(h:AHeap)(x:R):Res→Prop
 | .ok (t,p)=>∃c T h',x=some (.ret (.agg c),h')∧NodeT t c T∧Mem [b] h h' ((b,97,rdP u p)::T)
 | .error q=>∃h' p,x=some (.panic (z28a 6 q),h')∧Rd h' b u p∧Tch [b] h h'
open Go.RowKit Abs
theorem z164{x y:Nat}(hx:x<18446744073709551616)(hy:y<18446744073709551616):orI .u64 (x:Int) (y:Int)=((x|||y:Nat):Int):=by
 have e:(BitVec.ofInt 64 (x:Int)|||BitVec.ofInt 64 (y:Int)).toNat=x|||y:=by
  rw[BitVec.toNat_or,BitVec.toNat_ofInt,BitVec.toNat_ofInt]
  congr 1<;>omega
 unfold orI;show IntKind.u64.wrap (((BitVec.ofInt 64 (x:Int)|||BitVec.ofInt 64 (y:Int)).toNat:Nat):Int)=_;rw[e,z8c];have:=zd6 hx hy;omega
theorem xorI_nat{x y:Nat}(hx:x<18446744073709551616)(hy:y<18446744073709551616):xorI .u64 (x:Int) (y:Int)=((x ^^^ y:Nat):Int):=by
 have e:(BitVec.ofInt 64 (x:Int) ^^^ BitVec.ofInt 64 (y:Int)).toNat=x ^^^ y:=by
  rw[BitVec.toNat_xor,BitVec.toNat_ofInt,BitVec.toNat_ofInt]
  congr 1<;>omega
 unfold xorI;show IntKind.u64.wrap (((BitVec.ofInt 64 (x:Int) ^^^ BitVec.ofInt 64 (y:Int)).toNat:Nat):Int)=_;rw[e,z8c];have:=Nat.xor_lt_two_pow (n:=64) (x:=x) (y:=y) (by omega) (by omega);omega
theorem z33d{k:Nat}(h:k<64):shlI .u64 1 (k:Int)=some ((2 ^ k:Nat):Int):=by
 unfold shlI;rw[if_neg (by omega)]
 have e:min ((k:Int).toNat) IntKind.u64.bits=k:=by
  show min ((k:Int).toNat) 64=k;omega
 rw[e,z8c,Int.one_mul];have:=z188 h;have e2:((2:Int) ^ k)=((2 ^ k:Nat):Int):=by push_cast;rfl
 rw[e2]
 generalize 2 ^ k=z at this
 congr 1
 omega
theorem z492{c:Nat}(h:c<1000):quoI .i64 (c:Int) 64=some ((c/64:Nat):Int):=by
 unfold quoI;rw[if_neg (by decide),Int.tdiv_eq_ediv_of_nonneg (by omega),z335 (by omega) (by omega)]
 congr 1
theorem z48e{c:Nat}:remI .i64 (c:Int) 64=some ((c%64:Nat):Int):=by
 unfold remI;rw[if_neg (by decide),Int.tmod_eq_emod_of_nonneg (by omega)]
 congr 1
theorem z17a{n b o i:Nat}(h:i<n):z31a n 1 (.ptr b o) (i:Int)=some (.ptr b (o+i)):=by
 have e:Nat.blt i n=true:=by simpa using h
 show (match Nat.blt i n with|true=>some (AV.ptr b (o+i*1))|false=>none)=_;rw[e,Nat.mul_one]
section
variable {n d b o p:Nat}{h:AHeap}{u:z11}{Q:ARes→AHeap→Prop}{pre post:List AV}{w:List Nat}{e:TypeId}
theorem z248{i:Nat}(hi:i<w.length):(pre++(z22 w++post))[pre.length+i]? =some (.int .u64 (w.getD i 0:Int)):=by
 rw[List.getElem?_append_right (by omega),show pre.length+i - pre.length=i by omega,List.getElem?_append_left (by rw[z65];exact hi)];unfold z22;rw[List.getElem?_map,List.getD_eq_getElem?_getD,List.getElem?_eq_getElem hi];rfl
theorem z2b2{i x:Nat}(hi:i<w.length):(pre++(z22 w++post)).set (pre.length+i) (.int .u64 (x:Int))=pre++(z22 (w.set i x)++post):=by
 rw[List.set_append_right _ _ (by omega),show pre.length+i - pre.length=i by omega,List.set_append_left _ _ (by rw[z65];exact hi)];unfold z22;rw[List.map_set]
theorem z378{k4:AHeap→R}(hpre:pre.length=o):∀(m f lo:Nat) (w:List Nat) (H:AHeap),m<f→lo+m≤256→WordsOk w→RowH H b e (pre++(z22 w++post))→
   (∀H',RowH H' b e (pre++(z22 (z22e w lo m)++post))→Tch [b] H H'→Wp (k4 H') Q)→Wp (za1 (.ptr b o) ((lo+m:Nat) - 1:Int) k4 f (lo:Int) H) Q
 |_,0,_,_,_,hf,_,_,_,_=>by omega
 |0,f+1,lo,w,H,hf,hm,hw,k,hk=>by
  rw[zf4];unfold z94
  repeat(first|((with_reducible refine yf ?_ ?_ ?_);omega;omega)|(with_reducible refine Wp.lett ?_)|((with_reducible refine y7 ?_ ?_;apply decide_eq_false);omega))
  exact hk H k (Tch.refl _ _)
 |m+1,f+1,lo,w,H,hf,hm,hw,k,hk=>by
  rw[zf4];unfold z94;have hi:lo/64<4:=by omega
  have hl:lo/64<w.length:=by rw[hw.len];exact hi
  have hc:=z248 (pre:=pre) (post:=post) hl;have e1:=z492 (c:=lo) (by omega);have e2:=z17a (b:=b) (o:=o) hi;have e3:=z48e (c:=lo);have e4:=z33d (k:=lo%64) (Nat.mod_lt _ (by decide));rw[hpre] at hc;have e5:=y5 k hc
  repeat(first|((with_reducible refine yf ?_ ?_ ?_);omega;omega)|(with_reducible first|refine Wp.lett ?_|(apply Wp.obind;first|exact e1|exact e2|exact e3|exact e4|exact e5|exact z5 _ _|exact z12 _ _))|((with_reducible refine y8 ?_ ?_;apply decide_eq_true);omega))
  rw[z164 (hw.get _) (z188 (Nat.mod_lt _ (by decide)))];refine Wp.st1 k (by simp[z65];omega) rfl fun h' k' t' _=>?_;rw[←hpre,z2b2 hl] at k'
  repeat(((with_reducible refine yf ?_ ?_ ?_);omega;omega))
  have eh:((lo+(m+1):Nat) - 1:Int)=((lo+1+m:Nat) - 1:Int):=by omega
  have el:(lo:Int)+1=((lo+1:Nat):Int):=by omega
  rw[eh,el];exact z378 hpre m f (lo+1) (addW w lo) h' (by omega) (by omega) (addW_ok hw lo) k' fun H' k2 t2=>hk H' k2 (t'.trans t2)
theorem z2ea(hpre:pre.length=o)(hn:300<n){lo hi:Nat}(h1:lo≤hi)(h2:hi<256)(hw:WordsOk w)(k:RowH h b e (pre++(z22 w++post))):∃h',world n (d+1) 58 [.ptr b o,.int .u8 (lo:Int),.int .u8 (hi:Int)] h=some (.ret (.tup []),h')∧RowH h' b e (pre++(z22 (z22e w lo (hi+1 - lo))++post))∧Tch [b] h h':=by
 apply Wp.ex;rw[z25b];unfold zb1
 (((with_reducible refine yf ?_ ?_ ?_);omega;omega))
 ((with_reducible refine y10 (fun _ _=>?_)))
 rename_i k4 ek4;have eh:(hi:Int)=((lo+(hi+1 - lo):Nat) - 1:Int):=by omega
 rw[eh];refine z378 hpre (hi+1 - lo) n lo w h (by omega) (by omega) hw k fun H' k2 t2=>?_
 repeat((with_reducible refine y26 (by assumption) ?_))
 exact Wp.ret ⟨rfl,k2,t2⟩
end
theorem Step.ok_of{b p:Nat}{u:z11}{h:AHeap}{x:R}{v:AV}(k:Wp x fun r h'=>r=.ret v∧Rd h' b u p∧Tch [b] h h'):Step b u h x (.ok (v,p)):=k.ex
theorem Step.err_of{b q:Nat}{e:Int}{u:z11}{h:AHeap}{x:R}(k:Wp x fun r h'=>r=.panic (z28a e q)∧∃p,Rd h' b u p∧Tch [b] h h'):Step b u h x (.error (e,q)):=by
 obtain⟨_,h',e1,rfl,p,k1,k2⟩:=k;exact⟨h',p,e1,k1,k2⟩
theorem y2a{b:Nat}{u:z11}{h:AHeap}{x:R}{k:AV→AHeap→R}{Q:ARes→AHeap→Prop}{v:AV}{p:Nat}(hx:Step b u h x (.ok (v,p)))(hk:∀h',Rd h' b u p→Tch [b] h h'→Wp (k v h') Q):Wp (callK x k) Q:=by
 obtain⟨h',e,k1,k2⟩:=hx;exact Wp.callK e (hk h' k1 k2)
theorem y29{b:Nat}{u:z11}{h:AHeap}{x:R}{k:AV→AHeap→R}{Q:ARes→AHeap→Prop}{v:AV}{p:Nat}(hx:Step b u h x (.ok (v,p)))(hk:∀h',Rd h' b u p→Tch [b] h h'→Wp (k v h') Q):Wp (callN x k) Q:=by
 obtain⟨h',e,k1,k2⟩:=hx;exact Wp.callN e (hk h' k1 k2)
theorem y44{b q:Nat}{e:Int}{u:z11}{h:AHeap}{x:R}{k:AV→AHeap→R}{Q:ARes→AHeap→Prop}(hx:Step b u h x (.error (e,q)))(hk:∀h' p,Rd h' b u p→Tch [b] h h'→Q (.panic (z28a e q)) h'):Wp (callK x k) Q:=by
 obtain⟨h',p,e1,k1,k2⟩:=hx;exact y19 e1 (hk h' p k1 k2)
theorem z242{S:List Nat}{h h':AHeap}{b:Nat}(t:Tch S h h')(hb:b<h.next):b<h'.next:=Nat.lt_of_lt_of_le hb t.1
section
variable {n d b p:Nat}{h:AHeap}{u:z11}{Q:ARes→AHeap→Prop}
theorem take_r(k:Rd h b u p)(hb:b<h.next)(hp:p≤u.length)(hu:u.length≤1000000)(c:Nat):Step b u h (world n (d+4) 62 [.ptr b 0,.int .u8 (c:Int)] h) (if at? u p=some c then .ok (.tup [],p+1) else .error (6,p)):=by
 have hs:=z9c (n:=n) (d:=d) k hb hp hu c
 by_cases hc:at? u p=some c
 ·rw [if_pos hc, decide_eq_true hc] at hs
  rw[if_pos hc];refine Step.ok_of ?_;rw[z134];unfold z54;refine y29 hs fun h' k1 k2=>?_
  repeat(with_reducible first|refine y10 (fun _ _=>?_)|refine Wp.lett ?_|(apply Wp.obind;exact z6 _)|(refine y7 ?_ ?_;exact Bool.not_true)|refine y26 (by assumption) ?_)
  exact Wp.ret ⟨rfl,k1,k2⟩
 ·rw [if_neg hc, decide_eq_false hc] at hs
  rw[if_neg hc];refine Step.err_of ?_;rw[z134];unfold z54;refine y29 hs fun h' k1 k2=>?_;have hr:=z29e (n:=n) (d:=d+2) (h:=h') 6 p
  repeat(first|(with_reducible first|refine y10 (fun _ _=>?_)|refine Wp.lett ?_)|((with_reducible apply Wp.obind);first|(with_reducible first|exact z5 _ _|exact z6 _|exact z12 _ _|exact z8 _ _ _)|((with_reducible apply y5);(with_reducible assumption);rfl))|(with_reducible refine y8 ?_ ?_;exact Bool.not_false))
  exact y19 hr ⟨rfl,p,k1,k2⟩
end
abbrev z332:Nat:=77
theorem z2a6:∀(w:List Nat),y35 (z22 w++[.nsl])=true
 |[]=>rfl
 |_::w=>z2a6 w
theorem z313(op:Nat)(w:List Nat):(AV.agg (z96 op w .nsl)).scal=true:=z2a6 w
theorem bldOver0(op:Int):z252 Tryd.prog z28 [(0,.int .i64 op),(2,.nsl)]=some [.int .i64 op,.int .u64 0,.int .u64 0,.int .u64 0,.int .u64 0,.nsl]:=by kernel_rfl
theorem bldOver1(op:Int)(c m:Nat):z252 Tryd.prog z28 [(0,.int .i64 op),(2,.sl c 0 m 6)]=some [.int .i64 op,.int .u64 0,.int .u64 0,.int .u64 0,.int .u64 0,.sl c 0 m 6]:=by kernel_rfl
theorem bldSet(a b c d:Int):z252 Tryd.prog z28 [(0,.int .i64 2),(1,.agg [.int .u64 a,.int .u64 b,.int .u64 c,.int .u64 d])]=some [.int .i64 2,.int .u64 a,.int .u64 b,.int .u64 c,.int .u64 d,.nsl]:=by kernel_rfl
theorem bldNode(h:AHeap)(op a b c d:Int)(kv:AV):zdb Tryd.prog h z332 1 [(0,.agg [.int .i64 op,.int .u64 a,.int .u64 b,.int .u64 c,.int .u64 d,kv])]=za9 h z28 [.int .i64 op,.int .u64 a,.int .u64 b,.int .u64 c,.int .u64 d,kv] 1 6:=by kernel_rfl
theorem z40b{w:List Nat}(k:WordsOk w):∃a b c d,w=[a,b,c,d]:=by
 match w,k.len with
 |[a,b,c,d],_=>exact⟨a,b,c,d,rfl⟩
theorem NodeT.bld{t:Nd}{c:List AV}{T:List ze7}(k:NodeT t c T)(h:AHeap):zdb Tryd.prog h z332 1 [(0,.agg c)]=za9 h z28 c 1 6:=by
 cases k with
 |mk hw g ks=>
  obtain⟨a,b,c,d,rfl⟩:=z40b hw;exact bldNode h _ _ _ _ _ _
theorem setBld{w:List Nat}(k:WordsOk w):z252 Tryd.prog z28 [(0,.int .i64 2),(1,.agg (z22 w))]=some (z96 2 w .nsl):=by
 obtain⟨a,b,c,d,rfl⟩:=z40b k;exact bldSet _ _ _ _
section
variable {n d b p:Nat}{h h0:AHeap}{u:z11}{Q:ARes→AHeap→Prop}{S:List Nat}{xs T T0 T1:List ze7}{kc:List (List AV)}{kv:AV}{l:List Nd}
theorem overBld(g:GrowT z28 6 kc kv T)(op:Nat):z252 Tryd.prog z28 [(0,.int .i64 (op:Int)),(2,kv)]=some (z96 op z9b kv):=by
 rcases g.2 with⟨_,rfl,_⟩|⟨_,c,rfl,_⟩
 ·exact bldOver0 _
 ·exact bldOver1 _ _ _
theorem z1d1{op:Nat}{w:List Nat}(hw:WordsOk w):(z96 op w kv).length=6:=by simp[z96,z65,hw.len]
theorem zb3{op:Nat}{w:List Nat}(hk:kv.one=true):(z96 op w kv).all AV.one=true:=by
 simp only[z96,List.all_cons,List.all_append,z1e0,hk,List.all_nil,Bool.and_true];rfl
theorem z1d0(hn:300<n){c:Nat}(hc:c<256):world n (d+2) 54 [.int .u8 (c:Int)] h=some (.ret (.agg (z96 2 (z22e z9b c 1) .nsl)),h):=by
 apply Wp.eq;rw[z259];refine y3c ?_
 suffices hK:Wp (z92 (world n (d+1)) n c h) fun r h'=>r=.ret (.agg (z96 2 (z22e z9b c 1) .nsl))∧Tch [] h h' from hK.mono fun r h' ⟨e,t⟩=>⟨t.above,by rw[e];exact z313 _ _,e,rfl⟩
 unfold z92;have Mx:=Mem.nil [] h
 repeat(first|((with_reducible apply y11 Mx);rfl;rfl;(rfl);clear Mx;intro _ Mx)|((with_reducible apply y9 Mx);clear Mx;intro _ Mx)|rw[z10])
 have k0:RowH _ _ _ ([AV.int .i64 2]++(z22 z9b++[.nsl])):=Mx.at0.1;obtain⟨h5,e5,k5,t5⟩:=z2ea (n:=n) (d:=d) rfl hn (Nat.le_refl c) hc z89 k0;refine Wp.callN e5 ?_;have Mz:=y18 (xs:=[]) Mx t5 k5;clear Mx;have Mx:=Mz;clear Mz k0 k5;rw[show c+1 - c=1 by omega] at Mx;have ho:=zb3 (kv:=.nsl) (op:=2) (w:=z22e z9b c 1) rfl;have hl:([AV.int .i64 2]++(z22 (z22e z9b c 1)++[AV.nsl])).length=6:=z1d1 (op:=2) (z12f 1 z89 c);refine y16 Mx hl ?_;refine y24 Mx hl rfl ho fun h6 Mz=>?_;refine y20 Mz hl ?_;exact Wp.ret ⟨rfl,Mz.tch⟩
theorem z2e7(hn:300<n):world n (d+2) 53 [] h=some (.ret (.agg (z96 2 (anyW) .nsl)),h):=by
 apply Wp.eq;rw[z25a];refine y3c ?_
 suffices hK:Wp (z93 (world n (d+1)) n h) fun r h'=>r=.ret (.agg (z96 2 (anyW) .nsl))∧Tch [] h h' from hK.mono fun r h' ⟨e,t⟩=>⟨t.above,by rw[e];exact z313 _ _,e,rfl⟩
 unfold z93;have Mx:=Mem.nil [] h
 repeat(first|((with_reducible apply y11 Mx);rfl;rfl;(rfl);clear Mx;intro _ Mx)|((with_reducible apply y9 Mx);clear Mx;intro _ Mx)|rw[z10])
 have k0:RowH _ _ _ ([AV.int .i64 2]++(z22 z9b++[.nsl])):=Mx.at0.1;obtain⟨h5,e5,k5,t5⟩:=z2ea (n:=n) (d:=d) (lo:=0) (hi:=255) rfl hn (by omega) (by omega) z89 k0;refine Wp.callN e5 ?_;have Mz:=y18 (xs:=[]) Mx t5 k5;clear Mx;have Mx:=Mz;clear Mz k0 k5;rw[anyW_eq] at Mx;have ho:=zb3 (kv:=.nsl) (op:=2) (w:=anyW) rfl;have hl:([AV.int .i64 2]++(z22 (anyW)++[AV.nsl])).length=6:=z1d1 (op:=2) z366;refine y16 Mx hl ?_;refine y24 Mx hl rfl ho fun h6 Mz=>?_;refine y20 Mz hl ?_;exact Wp.ret ⟨rfl,Mz.tch⟩
theorem z41c(g:GrowT z28 6 kc kv T)(op:Nat):∃h',world n (d+1) 52 [.int .i64 (op:Int),kv] h=some (.ret (.agg (z96 op z9b kv)),h')∧Tch [] h h':=by
 apply Wp.ex;rw[z2ec];unfold z108;have Mx:=Mem.nil [] h;have hl:=z1d1 (kv:=kv) (op:=op) z89;have ho:=zb3 (op:=op) (w:=z9b) g.one.1;have hb:=overBld g op
 repeat(first|((with_reducible apply y16 Mx);rfl)|((with_reducible apply y11 Mx);rfl;rfl;((with_reducible assumption));clear Mx;intro _ Mx)|((with_reducible apply y9 Mx);clear Mx;intro _ Mx)|(with_reducible apply Wp.obind;exact hb)|rw[z10])
 exact Wp.ret ⟨rfl,Mx.tch⟩
theorem z26e(M:Mem S h0 h (xs++(T0++T1))):Mem S h0 h (xs++T1):=Mem.drop (xs:=T0) (M.perm (List.perm_append_comm_assoc T0 xs T1))
theorem idx0(c m:Nat):z1a6 6 (.sl c 0 (m+1) 6) 0=some (.ptr c 0):=by
 have:=idxP_sl (sz:=6) (b:=c) (o:=0) (n:=m+1) (k:=6) (i:=0) (by omega)
 simpa using this
theorem z2d6{c:List AV}(g:GrowT z28 6 [c] kv T0):∃q,kv=.sl q 0 1 6∧T0=[(q,z28,c)]:=by
 rcases g.2 with⟨hh,_⟩|⟨_,q,rfl,rfl⟩
 ·cases hh
 ·exact⟨q,rfl,by simp⟩
theorem inRow_r(Mx:Mem S h0 h (xs++(T0++T1)))(g:GrowT z28 6 kc kv T0)(k:KidsT l kc T1):∃c T h',world n (d+2) 50 [kv] h=some (.ret (.agg c),h')∧NodeT (z222 3 l) c T∧Mem S h0 h' (xs++T):=by
 have hkl:=k.len
 match l,k,hkl with
 |[],k,hkl=>
  cases k
  rcases g.2 with⟨_,rfl,rfl⟩|⟨hh,_⟩
  ·refine ⟨z96 1 z9b .nsl, [], ?_⟩
   suffices hK:∃h',world n (d+2) 50 [.nsl] h=some (.ret (.agg (z96 1 z9b .nsl)),h')∧Mem S h0 h' (xs++([]++[])) by
    obtain⟨h',e,M'⟩:=hK;exact⟨h',e,y23 1 z89,M'⟩
   apply Wp.ex;rw[z161];unfold za0;have hlen:z153 .nsl=some 0:=rfl
   repeat(first|((with_reducible apply y16 Mx);rfl)|((with_reducible apply y11 Mx);rfl;rfl;(rfl);clear Mx;intro _ Mx)|((with_reducible apply y9 Mx);clear Mx;intro _ Mx)|(with_reducible first|refine Wp.lett ?_|(apply Wp.obind;exact hlen))|((with_reducible refine y8 ?_ ?_;apply z88);omega)|rw[z10])
   exact Wp.ret ⟨rfl,Mx.pop⟩
  ·exact absurd rfl hh
 |[t],k,hkl=>
  obtain⟨c,rfl,kt⟩:=k.one;obtain⟨q,rfl,rfl⟩:=z2d6 g;refine⟨c,T1,?_⟩
  suffices hK:∃h',world n (d+2) 50 [.sl q 0 1 6] h=some (.ret (.agg c),h')∧Mem S h0 h' (xs++([(q,z28,c)]++T1)) by
   obtain⟨h',e,M'⟩:=hK;exact⟨h',e,kt,z26e M'⟩
  apply Wp.ex;rw[z161];unfold za0;have hlen:z153 (.sl q 0 1 6)=some 1:=rfl;have ei:z1a6 6 (.sl q 0 1 6) 0=some (.ptr q 0):=idx0 q 0
  repeat(first|((with_reducible apply y9 Mx);clear Mx;intro _ Mx)|(with_reducible first|refine Wp.lett ?_|(apply Wp.obind;first|exact hlen|exact ei))|((with_reducible refine y8 ?_ ?_;apply z88);omega)|((with_reducible refine y7 ?_ ?_;apply z99);omega)|rw[z10])
  refine Wp.obind (RowH.ldAll (Mem.at (xs:=_::xs) Mx).1 kt.len) ?_;refine y11 Mx kt.len rfl kt.one fun h6 Mz=>?_;refine y16 Mz kt.len ?_;exact Wp.ret ⟨rfl,Mz.pop⟩
 |t::t'::ts,k,hkl=>
  refine⟨z96 3 z9b kv,T0++T1,?_⟩
  suffices hK:∃h',world n (d+2) 50 [kv] h=some (.ret (.agg (z96 3 z9b kv)),h')∧Mem S h0 h' (xs++(T0++T1)) by
   obtain⟨h',e,M'⟩:=hK;exact⟨h',e,NodeT.mk z89 g k,M'⟩
  apply Wp.ex;rw[z161];unfold za0;have hlen:=g.len;simp only[List.length_cons] at hkl;have hl:=z1d1 (kv:=kv) (op:=3) z89;have ho:=zb3 (op:=3) (w:=z9b) g.one.1
  repeat(first|((with_reducible refine Wp.mcall (z41c (n:=n) (d:=d) g 3) Mx (fun _ Mz _=>?_));clear Mx;have Mx:=Mz;clear Mz)|((with_reducible apply y16 Mx);rfl)|((with_reducible apply y11 Mx);rfl;rfl;((with_reducible assumption));clear Mx;intro _ Mx)|((with_reducible apply y9 Mx);clear Mx;intro _ Mx)|(with_reducible first|refine Wp.lett ?_|(apply Wp.obind;first|exact hlen|exact z13 _))|((with_reducible refine y7 ?_ ?_;apply z99);omega)|rw[z10])
  exact Wp.ret ⟨rfl,Mx.pop⟩
end
abbrev TRd:Nat:=97
abbrev z446:Nat:=76
def byteR:Except Nat (Nat×Nat)→Except (Int×Nat) (AV×Nat)
 | .ok (c,j)=>.ok (.int .u8 (c:Int),j)
 | .error q=>.error (6,q)
noncomputable def setR:Except Nat (List Nat×Nat)→Except (Int×Nat) (AV×Nat)
 | .ok (w,j)=>.ok (.agg (z22 w),j)
 | .error q=>.error (6,q)
section
variable {n d b p q i:Nat}{h h0:AHeap}{u:z11}{Q:ARes→AHeap→Prop}{S:List Nat}{xs:List ze7}{w:List Nat}
theorem at?_256{c:Nat}(h:at? u i=some c):c<256:=by
 obtain⟨hp,rfl⟩:=at?_some h;exact UInt8.toNat_lt _
theorem z1a2{c j:Nat}(h:z2f6 u i=.ok (c,j)):c<256∧i<j∧j≤u.length:=by
 unfold z2f6 at h
 split at h
 ·cases h
 ·rename_i c' hc
  obtain⟨hp,_⟩:=at?_some hc
  split at h
  ·split at h
   ·cases h
   ·rename_i e he
    obtain⟨hp2,_⟩:=at?_some he;cases h;exact⟨at?_256 he,by omega,by omega⟩
  ·split at h
   ·cases h
   ·cases h
    exact⟨at?_256 hc,by omega,by omega⟩
theorem z392{q:Nat}(hi:i≤u.length)(h:z2f6 u i=.error q):q≤u.length:=by
 unfold z2f6 at h
 split at h
 ·cases h
  exact hi
 ·rename_i c' hc
  obtain⟨hp,_⟩:=at?_some hc
  split at h
  ·split at h
   ·cases h
    omega
   ·cases h
  ·split at h
   ·cases h
    omega
   ·cases h
theorem z316{w':List Nat}{j:Nat}(hw:WordsOk w)(h:z118 u w i=.ok (w',j)):WordsOk w'∧i<j∧j≤u.length:=by
 unfold z118 at h
 split at h
 ·cases h
 ·rename_i c j' h1
  obtain⟨_,h2,h3⟩:=z1a2 h1
  split at h
  ·split at h
   ·cases h
   ·rename_i e k h4
    obtain⟨_,h5,h6⟩:=z1a2 h4
    split at h
    ·cases h
    ·cases h
     exact⟨z12f _ hw _,by omega,h6⟩
  ·cases h
   exact⟨z12f _ hw _,h2,h3⟩
theorem z1a1{q:Nat}(hi:i≤u.length)(h:z118 u w i=.error q):q≤u.length:=by
 unfold z118 at h
 split at h
 ·rename_i h1
  cases h;exact z392 hi h1
 ·rename_i c j' h1
  split at h
  ·rename_i h45
   obtain⟨hp,_⟩:=at?_some h45
   split at h
   ·rename_i h4
    cases h;exact z392 (by omega) h4
   ·rename_i e k h4
    obtain⟨_,h5,h6⟩:=z1a2 h4
    split at h
    ·cases h
     omega
    ·cases h
  ·cases h
theorem z179(k:Rd h b u i)(hb:b<h.next)(hi:i≤u.length)(hu:u.length≤1000000):Step b u h (world n (d+3) 66 [.ptr b 0] h) (byteR (z2f6 u i)):=by
 have hx:=zbd (n:=n) (d:=d) k hb hi hu;unfold z2f6;cases hc:at? u i with
 |none=>
  rw[hc] at hx;refine Step.err_of ?_;rw[z43];unfold z1f;exact y44 hx fun h' p' k1 k2=>⟨rfl,p',k1,k2⟩
 |some c=>
  rw[hc] at hx;obtain⟨hp,_⟩:=at?_some hc;have h256:=at?_256 hc
  by_cases h92:c=92
  ·show Step b u h _ (byteR (if c = 92 then _ else _))
   rw[if_pos h92];cases he:at? u (i+1) with
   |none=>
    refine Step.err_of ?_;rw[z43];unfold z1f;refine y2a hx fun h1 k1 t1=>?_;have hx2:=zbd (n:=n) (d:=d) k1 (z242 t1 hb) (by omega) hu;rw[he] at hx2
    repeat(first|(with_reducible first|refine Wp.lett ?_|(apply Wp.obind;exact z5 _ _))|((with_reducible refine y8 ?_ ?_;apply z88);omega))
    exact y44 hx2 fun h' p' k2 t2=>⟨rfl,p',k2,t1.trans t2⟩
   |some e=>
    refine Step.ok_of ?_;rw[z43];unfold z1f;refine y2a hx fun h1 k1 t1=>?_;have hx2:=zbd (n:=n) (d:=d) k1 (z242 t1 hb) (by omega) hu;rw[he] at hx2
    repeat(first|(with_reducible first|refine Wp.lett ?_|(apply Wp.obind;exact z5 _ _))|((with_reducible refine y8 ?_ ?_;apply z88);omega))
    refine y2a hx2 fun h2 k2 t2=>?_
    repeat(((with_reducible apply Wp.obind);(with_reducible exact z5 _ _)))
    exact Wp.ret ⟨rfl,k2,t1.trans t2⟩
  ·show Step b u h _ (byteR (if c = 92 then _ else _))
   rw[if_neg h92]
   by_cases hs:c=91∨c=93∨c=94∨c=45
   ·rw [if_pos hs]
    refine Step.err_of ?_;rw[z43];unfold z1f;refine y2a hx fun h1 k1 t1=>?_;have hr:=z1ca (n:=n) (d:=d) k1 (by omega) hu
    rcases hs with hs|hs|hs|hs
    ·repeat (first | (with_reducible first | (first | refine y10 (fun _ _ => ?_) | refine yc (fun _ _ => ?_)) | refine Wp.lett ?_ | (apply Wp.obind; exact z5 _ _)) | ((with_reducible refine y8 ?_ ?_); first | (with_reducible rfl) | ((with_reducible apply z88); omega)) | ((with_reducible refine y7 ?_ ?_; apply z99); omega) | (with_reducible refine ye (by assumption) ?_))
     exact y19 hr ⟨rfl,_,k1,t1⟩
    ·repeat (first | (with_reducible first | (first | refine y10 (fun _ _ => ?_) | refine yc (fun _ _ => ?_)) | refine Wp.lett ?_ | (apply Wp.obind; exact z5 _ _)) | ((with_reducible refine y8 ?_ ?_); first | (with_reducible rfl) | ((with_reducible apply z88); omega)) | ((with_reducible refine y7 ?_ ?_; apply z99); omega) | (with_reducible refine ye (by assumption) ?_))
     exact y19 hr ⟨rfl,_,k1,t1⟩
    ·repeat (first | (with_reducible first | (first | refine y10 (fun _ _ => ?_) | refine yc (fun _ _ => ?_)) | refine Wp.lett ?_ | (apply Wp.obind; exact z5 _ _)) | ((with_reducible refine y8 ?_ ?_); first | (with_reducible rfl) | ((with_reducible apply z88); omega)) | ((with_reducible refine y7 ?_ ?_; apply z99); omega) | (with_reducible refine ye (by assumption) ?_))
     exact y19 hr ⟨rfl,_,k1,t1⟩
    ·have h45 : ((c : Int) == 45) = true := z88 (by omega)
     repeat(first|(with_reducible first|(first|refine y10 (fun _ _=>?_)|refine yc (fun _ _=>?_))|refine Wp.lett ?_|(apply Wp.obind;exact z5 _ _)|(refine y8 ?_ ?_;assumption))|((with_reducible refine y7 ?_ ?_;apply z99);omega)|(with_reducible refine ye (by assumption) ?_))
     exact y19 hr ⟨rfl,_,k1,t1⟩
   ·rw [if_neg hs]
    refine Step.ok_of ?_;rw[z43];unfold z1f;refine y2a hx fun h1 k1 t1=>?_;have h45:((c:Int) == 45)=false:=z99 (by omega)
    repeat(first|(with_reducible first|(first|refine y10 (fun _ _=>?_)|refine yc (fun _ _=>?_))|refine Wp.lett ?_|(apply Wp.obind;exact z5 _ _))|((with_reducible refine y7 ?_ ?_);first|(with_reducible assumption)|((with_reducible apply z99);omega))|(with_reducible first|refine y26 (by assumption) ?_|refine ye (by assumption) ?_))
    exact Wp.ret ⟨rfl,k1,t1⟩
def StepM(S:List Nat)(h0:AHeap)(xs:List ze7)(b q:Nat)(u:z11)(x:R):Except Nat (List Nat×Nat)→Prop
 | .ok (w',j)=>∃h',x=some (.ret (.tup []),h')∧Mem S h0 h' ((b,TRd,rdP u j)::(q,z446,z22 w')::xs)
 | .error e=>∃h' p,x=some (.panic (z28a 6 e),h')∧Rd h' b u p∧Tch S h0 h'
theorem StepM.ok_of{x:R}{w':List Nat}{j:Nat}(k:Wp x fun r h'=>r=.ret (.tup [])∧Mem S h0 h' ((b,TRd,rdP u j)::(q,z446,z22 w')::xs)):StepM S h0 xs b q u x (.ok (w',j)):=k.ex
theorem StepM.err_of{x:R}{e:Nat}(k:Wp x fun r h'=>r=.panic (z28a 6 e)∧∃p,Rd h' b u p∧Tch S h0 h'):StepM S h0 xs b q u x (.error e):=by
 obtain⟨_,h',e1,rfl,p,k1,k2⟩:=k;exact⟨h',p,e1,k1,k2⟩
theorem z3c1(hn:300<n){lo hi:Nat}(h1:lo≤hi)(h2:hi<256)(hw:WordsOk w){y:ze7}(M:Mem S h0 h (y::(q,z446,z22 w)::xs)):∃h',world n (d+1) 58 [.ptr q 0,.int .u8 (lo:Int),.int .u8 (hi:Int)] h=some (.ret (.tup []),h')∧Mem S h0 h' (y::(q,z446,z22 (z22e w lo (hi+1 - lo)))::xs):=by
 have k0:RowH h q z446 ([]++(z22 w++[])):=by
  rw[List.nil_append,List.append_nil];exact M.at1.1
 obtain⟨h',e,k1,t⟩:=z2ea (n:=n) (d:=d) rfl hn h1 h2 hw k0;rw[List.nil_append,List.append_nil] at k1;exact⟨h',e,y18 (xs:=[y]) M t k1⟩
theorem z29f(hn:300<n)(hw:WordsOk w)(M:Mem S h0 h ((b,TRd,rdP u i)::(q,z446,z22 w)::xs))(hi:i≤u.length)(hu:u.length≤1000000):StepM S h0 xs b q u (world n (d+4) 65 [.ptr b 0,.ptr q 0] h) (z118 u w i):=by
 have hx:=z179 (n:=n) (d:=d) M.at0.1 M.at0.2.1 hi hu;unfold z118;have bS:=M.at0.2.2;have up:∀{h1:AHeap} {p:Nat},Rd h1 b u p→Tch [b] h h1→Tch S h0 h1:=fun k t=>(y18 (xs:=[]) M t k).tch;cases hm:z2f6 u i with
 |error e=>
  rw[hm] at hx;refine StepM.err_of ?_;rw[z5c];unfold z29;exact y44 hx fun h' p' k1 k2=>⟨rfl,p',k1,up k1 k2⟩
 |ok cj=>
  obtain⟨c,j⟩:=cj;rw[hm] at hx;obtain⟨c1,c2,c3⟩:=z1a2 hm
  by_cases h45:at? u j=some 45
  ·show StepM S h0 xs b q u _ (if at? u j = some 45 then _ else _)
   rw[if_pos h45];obtain⟨hj,_⟩:=at?_some h45;cases hm2:z2f6 u (j+1) with
   |error e=>
    refine StepM.err_of ?_;rw[z5c];unfold z29;refine y2a hx fun h1 k1 t1=>?_;have hs:=z9c (n:=n) (d:=d) k1 (z242 t1 M.at0.2.1) c3 hu 45;rw[if_pos h45,decide_eq_true h45] at hs
    repeat(((with_reducible apply Wp.obind);(with_reducible exact z5 _ _)))
    refine y29 hs fun h2 k2 t2=>?_;have hx2:=z179 (n:=n) (d:=d) k2 (z242 (t1.trans t2) M.at0.2.1) (by omega) hu;rw[hm2] at hx2
    repeat(with_reducible first|refine yc (fun _ _=>?_)|(apply Wp.obind;exact z6 _)|(refine y8 ?_ ?_;rfl))
    exact y44 hx2 fun h' p' k3 t3=>⟨rfl,p',k3,up k3 ((t1.trans t2).trans t3)⟩
   |ok ek=>
    obtain⟨e,k⟩:=ek;obtain⟨e1,e2,e3⟩:=z1a2 hm2;show StepM S h0 xs b q u _ (if e<c then _ else _)
    by_cases hlt:e<c
    ·rw [if_pos hlt]
     obtain⟨k',rfl⟩:∃k',k=k'+1:=⟨k - 1,by omega⟩;refine StepM.err_of ?_;rw[z5c];unfold z29;refine y2a hx fun h1 k1 t1=>?_;have hs:=z9c (n:=n) (d:=d) k1 (z242 t1 M.at0.2.1) c3 hu 45;rw[if_pos h45,decide_eq_true h45] at hs
     repeat(((with_reducible apply Wp.obind);(with_reducible exact z5 _ _)))
     refine y29 hs fun h2 k2 t2=>?_;have hx2:=z179 (n:=n) (d:=d) k2 (z242 (t1.trans t2) M.at0.2.1) (by omega) hu;rw[hm2] at hx2
     repeat(with_reducible first|refine yc (fun _ _=>?_)|(apply Wp.obind;exact z6 _)|(refine y8 ?_ ?_;rfl))
     refine y2a hx2 fun h3 k3 t3=>?_;have hr:=z1ca (n:=n) (d:=d+1) k3 (by omega) hu
     repeat(first|(with_reducible first|refine y10 (fun _ _=>?_)|refine Wp.lett ?_|(apply Wp.obind;exact z5 _ _))|((with_reducible refine y8 ?_ ?_;apply decide_eq_true);omega))
     exact y19 hr ⟨rfl,_,k3,up k3 ((t1.trans t2).trans t3)⟩
    ·rw [if_neg hlt]
     refine StepM.ok_of ?_;rw[z5c];unfold z29;refine y2a hx fun h1 k1 t1=>?_;have hs:=z9c (n:=n) (d:=d) k1 (z242 t1 M.at0.2.1) c3 hu 45;rw[if_pos h45,decide_eq_true h45] at hs
     repeat(((with_reducible apply Wp.obind);(with_reducible exact z5 _ _)))
     refine y29 hs fun h2 k2 t2=>?_;have hx2:=z179 (n:=n) (d:=d) k2 (z242 (t1.trans t2) M.at0.2.1) (by omega) hu;rw[hm2] at hx2
     repeat(with_reducible first|refine yc (fun _ _=>?_)|(apply Wp.obind;exact z6 _)|(refine y8 ?_ ?_;rfl))
     refine y2a hx2 fun h3 k3 t3=>?_;obtain⟨h4,e4,M4⟩:=z3c1 (n:=n) (d:=d+2) hn (by omega:c≤e) e1 hw (y18 (xs:=[]) M ((t1.trans t2).trans t3) k3)
     repeat(first|(with_reducible first|refine y10 (fun _ _=>?_)|refine Wp.lett ?_|(apply Wp.obind;exact z5 _ _))|((with_reducible refine y7 ?_ ?_;apply decide_eq_false);omega)|(with_reducible first|(apply Wp.callN;assumption)|(first|refine y26 (by assumption) ?_|refine ye (by assumption) ?_)))
     exact Wp.ret ⟨rfl,M4⟩
  ·show StepM S h0 xs b q u _ (if at? u j = some 45 then _ else _)
   rw[if_neg h45];refine StepM.ok_of ?_;rw[z5c];unfold z29;refine y2a hx fun h1 k1 t1=>?_;have hs:=z9c (n:=n) (d:=d) k1 (z242 t1 M.at0.2.1) c3 hu 45;rw[if_neg h45,decide_eq_false h45] at hs
   repeat(((with_reducible apply Wp.obind);(with_reducible exact z5 _ _)))
   refine y29 hs fun h2 k2 t2=>?_;obtain⟨h4,e4,M4⟩:=z3c1 (n:=n) (d:=d+2) hn (Nat.le_refl c) c1 hw (y18 (xs:=[]) M (t1.trans t2) k2);rw[show c+1 - c=1 by omega] at M4
   repeat(with_reducible first|refine yc (fun _ _=>?_)|(apply Wp.obind;exact z6 _)|(refine y7 ?_ ?_;rfl)|(apply Wp.callN;assumption)|refine ye (by assumption) ?_)
   exact Wp.ret ⟨rfl,M4⟩
end
section
variable {n d b p q i:Nat}{h h0:AHeap}{u:z11}{Q:ARes→AHeap→Prop}{S:List Nat}{xs:List ze7}{w:List Nat}
theorem z27e(hu:u.length≤1000000):∀(k j:Nat) (w:List Nat),j≤u.length→u.length - j<k→WordsOk w→∃r,LoopP u w j r∧(∀w' j',r=.ok (w',j')→WordsOk w'∧j<j'∧j'≤u.length)∧(∀e,r=.error e→e≤u.length)∧
   ∀{n d f b q:Nat} {S:List Nat} {h0 H hp0:AHeap} {xs:List ze7} {k16:AHeap→R} {Q:ARes→AHeap→Prop},z7 hp0=.ptr q 0→u.length - j<f→300<n→Mem S h0 H ((b,TRd,rdP u j)::(q,z446,z22 w)::xs)→
    (∀w' j' H',r=.ok (w',j')→Mem S h0 H' ((b,TRd,rdP u j')::(q,z446,z22 w')::xs)→Wp (k16 H') Q)→
    (∀e p H',r=.error e→Rd H' b u p→Tch S h0 H'→Q (.panic (z28a 6 e)) H')→
    Wp (z51 (world n (d+4)) (.ptr b 0) hp0 k16 f H) Q
 |0,_,_,_,hk,_=>by omega
 |k+1,j,w,hj,hk,hw=>by
  by_cases h93:at? u j=some 93
  ·obtain ⟨hp, _⟩ := at?_some h93
   refine⟨.ok (w,j+1),.done h93,?_,?_,?_⟩
   ·intro w' j' e
    cases e
    exact⟨hw,by omega,by omega⟩
   ·intro e he
    cases he
   ·intro n d f b q S h0 H hp0 xs k16 Q eq hf hn M hok hbad
    cases f with
    |zero=>omega
    |succ f=>
     rw[z5f];unfold z33;have hs:=z9c (n:=n) (d:=d+1) M.at0.1 M.at0.2.1 hj hu 93;rw[if_pos h93,decide_eq_true h93] at hs;refine y29 hs fun h1 k1 t1=>?_
     repeat(with_reducible first|refine Wp.lett ?_|(apply Wp.obind;exact z6 _)|(refine y7 ?_ ?_;exact Bool.not_true))
     exact hok w (j+1) h1 rfl (y18 (xs:=[]) M t1 k1)
  ·cases hm : z118 u w j with
   |error e=>
    refine⟨.error e,.bad h93 hm,?_,?_,?_⟩
    ·intro w' j' e
     cases e
    ·intro e' he
     cases he;exact z1a1 hj hm
    ·intro n d f b q S h0 H hp0 xs k16 Q eq hf hn M hok hbad
     cases f with
     |zero=>omega
     |succ f=>
      rw[z5f];unfold z33;have hs:=z9c (n:=n) (d:=d+1) M.at0.1 M.at0.2.1 hj hu 93;rw[if_neg h93,decide_eq_false h93] at hs;refine y29 hs fun h1 k1 t1=>?_;have hx:=z29f (n:=n) (d:=d) hn hw (y18 (xs:=[]) M t1 k1) hj hu;rw[hm] at hx;obtain⟨h2,p2,e2,k2,t2⟩:=hx;rw[eq]
      repeat(with_reducible first|refine Wp.lett ?_|(apply Wp.obind;exact z6 _)|(refine y8 ?_ ?_;exact Bool.not_false))
      exact y19 e2 (hbad e p2 h2 rfl k2 t2)
   |ok wj=>
    obtain⟨w',j'⟩:=wj;obtain⟨m1,m2,m3⟩:=z316 hw hm;obtain⟨r,r1,r2,r3,r4⟩:=z27e hu k j' w' m3 (by omega) m1;refine⟨r,.more h93 hm r1,?_,r3,?_⟩
    ·intro w2 j2 e
     obtain⟨a1,a2,a3⟩:=r2 w2 j2 e;exact⟨a1,by omega,a3⟩
    ·intro n d f b q S h0 H hp0 xs k16 Q eq hf hn M hok hbad
     cases f with
     |zero=>omega
     |succ f=>
      rw[z5f];unfold z33;have hs:=z9c (n:=n) (d:=d+1) M.at0.1 M.at0.2.1 hj hu 93;rw[if_neg h93,decide_eq_false h93] at hs;refine y29 hs fun h1 k1 t1=>?_;have hx:=z29f (n:=n) (d:=d) hn hw (y18 (xs:=[]) M t1 k1) hj hu;rw[hm] at hx;obtain⟨h2,e2,M2⟩:=hx;rw[eq]
      repeat(with_reducible first|refine Wp.lett ?_|(apply Wp.obind;exact z6 _)|(refine y8 ?_ ?_;exact Bool.not_false)|(apply Wp.callK;assumption))
      exact r4 eq (by omega) hn M2 hok hbad
theorem z2bd{hp0:AHeap}{k29:AHeap→R}{y:ze7}(eq:z7 hp0=.ptr q 0):∀(v2 v1:List Nat) (f:Nat) (H:AHeap),v2.length<f→v1.length+v2.length=4→(∀x∈v2,x<18446744073709551616)→Mem S h0 H (y::(q,z446,z22 v1++z22 v2)::xs)→
   (∀H',Mem S h0 H' (y::(q,z446,z22 v1++z22 (z180 v2))::xs)→Wp (k29 H') Q)→Wp (z52 hp0 k29 f ((v1.length:Nat):Int) H) Q
 |_,_,0,_,hf,_,_,_,_=>by omega
 |[],v1,f+1,H,hf,hl,hs,M,hk=>by
  rw[z91];unfold z46;rw[List.length_nil] at hl
  repeat(first|(with_reducible refine Wp.lett ?_)|((with_reducible refine y7 ?_ ?_;apply decide_eq_false);omega))
  exact hk H M
 |x::v2,v1,f+1,H,hf,hl,hs,M,hk=>by
  rw[z91];unfold z46;rw[List.length_cons] at hl hf;have hx:=hs x List.mem_cons_self;rw[eq];have e1:=z17a (n:=4) (b:=q) (o:=0) (i:=v1.length) (by omega);rw[Nat.zero_add] at e1;have hlv:=z65 v1
  have ho:(z22 v1++z22 (x::v2))[v1.length]? =some (.int .u64 (x:Int)):=by
   rw[List.getElem?_append_right (by omega),hlv,Nat.sub_self];rfl
  repeat(first|(with_reducible first|refine Wp.lett ?_|(apply Wp.obind;exact e1))|((with_reducible refine y8 ?_ ?_;apply decide_eq_true);omega))
  refine y30 M ho ?_
  repeat(with_reducible first|refine Wp.lett ?_|(apply Wp.obind;first|exact e1|exact z5 _ _))
  rw[show (18446744073709551615:Int)=((18446744073709551615:Nat):Int) from rfl,xorI_nat hx (by omega)];refine Wp.ms1 M (by simp[z65]) rfl fun H' M'=>?_
  have es:(z22 v1++z22 (x::v2)).set v1.length (.int .u64 ((x ^^^ 18446744073709551615:Nat):Int))=z22 (v1++[x ^^^ 18446744073709551615])++z22 v2:=by
   rw[List.set_append_right _ _ (by omega),hlv,Nat.sub_self]
   simp[z22]
  rw[es] at M'
  repeat(((with_reducible refine yf ?_ ?_ ?_);omega;omega))
  have el:(v1.length:Int)+1=(((v1++[x ^^^ 18446744073709551615]).length:Nat):Int):=by simp
  rw[el];refine z2bd eq v2 (v1++[x ^^^ 18446744073709551615]) f H' (by omega) (by simp;omega) (fun z hz=>hs z (List.mem_cons_of_mem _ hz)) M' fun H2 M2=>hk H2 ?_;have e2:z22 (v1++[x ^^^ 18446744073709551615])++z22 (z180 v2)=z22 v1++z22 (z180 (x::v2)):=by simp[z22,z180]
  rw[e2] at M2;exact M2
theorem z4ab(hu:u.length≤1000000)(hi:i≤u.length):∃r,SetP u i r∧(∀w j,r=.ok (w,j)→WordsOk w∧i<j∧j≤u.length)∧(∀e,r=.error e→e≤u.length)∧
  ∀{n d b:Nat} {h:AHeap},300<n→u.length<n→Rd h b u i→b<h.next→Step b u h (world n (d+5) 63 [.ptr b 0] h) (setR r):=by
 have hb1:z48b u i≤u.length∧i≤z48b u i:=by
  unfold z48b
  by_cases h94:at? u i=some 94
  ·obtain ⟨hp, _⟩ := at?_some h94
   rw[if_pos h94];omega
  ·rw [if_neg h94]
   omega
 cases hm:z118 u z9b (z48b u i) with
 |error e=>
  refine⟨.error e,.bad hm,?_,?_,?_⟩
  ·intro w j hh
   cases hh
  ·intro e' hh
   cases hh;exact z1a1 hb1.1 hm
  ·intro n d b h hn hn2 k hb
   refine Step.err_of ?_;have hs:=fun (h':AHeap) (k':Rd h' b u i) (hb':b<h'.next)=>z9c (n:=n) (d:=d+1) k' hb' hi hu 94;rw[z106];unfold z3b;have Mx:=Mem.one k hb
   repeat(first|((with_reducible apply y9 Mx);clear Mx;intro _ Mx)|rw[z10])
   have hs1:=hs _ Mx.at1.1 Mx.at1.2.1;refine y29 hs1 fun h1 k1 t1=>?_;have Mz:=y18 (xs:=[_]) Mx t1 k1;clear Mx;have Mx:=Mz;clear Mz
   repeat(first|(with_reducible apply Wp.obind;exact z6 _)|((with_reducible apply y9 Mx);clear Mx;intro _ Mx)|rw[z10])
   have M2:Mem _ _ _ ((b,TRd,rdP u (z48b u i))::(h1.next,z446,z22 z9b)::[_]):=Mx.perm (List.perm_append_comm (l₁:=[_]) (l₂:=[_,_]));have hx:=z29f (n:=n) (d:=d) hn z89 M2 hb1.1 hu;rw[hm] at hx;obtain⟨h2,p2,e2,k2,t2⟩:=hx;exact y19 e2 ⟨rfl,p2,k2,t2⟩
 |ok wj=>
  obtain⟨w,j⟩:=wj;obtain⟨m1,m2,m3⟩:=z316 z89 hm;obtain⟨r,r1,r2,r3,r4⟩:=z27e hu (u.length+1) j w m3 (by omega) m1;refine⟨z49d u i r,.set hm r1,?_,?_,?_⟩
  ·intro w' j' hh
   cases r with
   |error e=>cases hh
   |ok wj2=>
    obtain⟨w2,j2⟩:=wj2;obtain⟨a1,a2,a3⟩:=r2 w2 j2 rfl;cases hh;refine⟨?_,by omega,a3⟩
    split
    ·exact z310 a1
    ·exact a1
  ·intro e hh
   cases r with
   |error e'=>
    cases hh;exact r3 _ rfl
   |ok wj2=>cases hh
  ·intro n d b h hn hn2 k hb
   have main:∀Q:ARes→AHeap→Prop,(∀w' j' H',r=.ok (w',j')→Rd H' b u j'→Tch [b] h H'→Q (.ret (.agg (z22 (if at? u i=some 94 then z180 w' else w')))) H')→(∀e p H',r=.error e→Rd H' b u p→Tch [b] h H'→Q (.panic (z28a 6 e)) H')→Wp (world n (d+5) 63 [.ptr b 0] h) Q:=by
    intro Q q1 q2;have hs:=fun (h':AHeap) (k':Rd h' b u i) (hb':b<h'.next)=>z9c (n:=n) (d:=d+1) k' hb' hi hu 94;rw[z106];unfold z3b;have Mx:=Mem.one k hb
    repeat(first|((with_reducible apply y9 Mx);clear Mx;intro _ Mx)|rw[z10])
    have hs1:=hs _ Mx.at1.1 Mx.at1.2.1;refine y29 hs1 fun h1 k1 t1=>?_;have Mz:=y18 (xs:=[_]) Mx t1 k1;clear Mx;have Mx:=Mz;clear Mz
    repeat(first|(with_reducible apply Wp.obind;exact z6 _)|((with_reducible apply y9 Mx);clear Mx;intro _ Mx)|rw[z10])
    have M2:Mem _ _ _ ((b,TRd,rdP u (z48b u i))::(h1.next,z446,z22 z9b)::[_]):=Mx.perm (List.perm_append_comm (l₁:=[_]) (l₂:=[_,_]));have hx:=z29f (n:=n) (d:=d) hn z89 M2 hb1.1 hu;rw[hm] at hx;obtain⟨h2,e2,M3⟩:=hx;refine Wp.callK e2 ?_
    ((with_reducible refine y10 (fun _ _=>?_)))
    rename_i k16 ek16;refine r4 (z10 h1) (by omega) hn M3 ?_ ?_
    ·intro w' j' H' hr M4
     obtain⟨a1,a2,a3⟩:=r2 w' j' hr
     ((with_reducible refine y26 (by assumption) ?_))
     ((with_reducible refine y10 (fun _ _=>?_)))
     rename_i k20 ek20
     have fin:∀{w2:List Nat} {H2:AHeap},WordsOk w2→w2=(if at? u i=some 94 then z180 w' else w')→Mem [b] h H2 ((b,TRd,rdP u j')::(h1.next,z446,z22 w2)::[(h.next,z446,[.int .u64 0,.int .u64 0,.int .u64 0,.int .u64 0])])→Wp (k20 H2) Q:=by
      intro w2 H2 o2 ew M5;have hl:(z22 w2).length=4:=by rw[z65,o2.len]
      refine y26 ek20 ?_;refine y20 M5 hl ?_;refine y39 M5 hl rfl (z1e0 _) fun H3 M6=>?_;refine y42 M6 hl ?_;rw[ew] at M6 ⊢;exact Wp.ret (q1 w' j' H3 hr M6.at0.1 M6.tch)
     by_cases h94:at? u i=some 94
     ·(((with_reducible refine y8 ?_ ?_; apply decide_eq_true); omega))
      ((with_reducible refine y10 (fun _ _=>?_)))
      rename_i k29 ek29;have ho:=z2bd (S:=[b]) (h0:=h) (k29:=k29) (Q:=Q) (z10 h1) w' [] n H' (by rw[a1.len];omega) (by rw[a1.len];rfl) a1.small (by exact M4);refine ho fun H2 M5=>?_;refine y26 ek29 ?_;exact fin (z310 a1) (by rw[if_pos h94]) M5
     ·(((with_reducible refine y7 ?_ ?_; apply decide_eq_false); omega))
      exact fin a1 (by rw[if_neg h94]) M4
    ·intro e p H' hr k5 t5
     exact q2 e p H' hr k5 t5
   cases r with
   |error e=>exact Step.err_of (main _ (fun w' j' H' hh=>by cases hh) fun e' p H' hh k5 t5=>by cases hh;exact⟨rfl,p,k5,t5⟩)
   |ok wj2=>
    obtain⟨w2,j2⟩:=wj2;exact Step.ok_of (main _ (fun w' j' H' hh k5 t5=>by cases hh;exact⟨rfl,k5,t5⟩) fun e' p H' hh=>by cases hh)
end
def Bnd(u:z11)(i:Nat):Res→Prop
 | .ok (_,j)=>i≤j∧j≤u.length
 | .error q=>q≤u.length
def Bnd1(u:z11)(i:Nat):Res→Prop
 | .ok (_,j)=>i<j∧j≤u.length
 | .error q=>q≤u.length
def AltOk(u:z11)(m:Nat):Prop:=∀i,i≤u.length→u.length - i≤m→∃r,AltP u [] i r∧Bnd u i r∧
 ∀{n D b:Nat} {h:AHeap},4*m+9≤D→300<n→u.length+5<n→Rd h b u i→b<h.next→zb6 z28 h.ex=false→StepN b u h (world n D 46 [.ptr b 0] h) r
def RowOk(u:z11)(m:Nat):Prop:=∀i,i≤u.length→u.length - i≤m→∃r,RowP u [] i r∧Bnd u i r∧
 ∀{n D b:Nat} {h:AHeap},4*m+8≤D→300<n→u.length+5<n→Rd h b u i→b<h.next→zb6 z28 h.ex=false→StepN b u h (world n D 55 [.ptr b 0] h) r
def PartOk(u:z11)(m:Nat):Prop:=∀i,i≤u.length→u.length - i≤m→∃r,PartP u i r∧Bnd1 u i r∧
 ∀{n D b:Nat} {h:AHeap},4*m+7≤D→300<n→u.length+5<n→Rd h b u i→b<h.next→zb6 z28 h.ex=false→StepN b u h (world n D 60 [.ptr b 0] h) r
def AtomOk(u:z11)(m:Nat):Prop:=∀i,i≤u.length→u.length - i≤m→∃r,AtomP u i r∧Bnd1 u i r∧
 ∀{n D b:Nat} {h:AHeap},4*m+6≤D→300<n→u.length+5<n→Rd h b u i→b<h.next→zb6 z28 h.ex=false→StepN b u h (world n D 61 [.ptr b 0] h) r
section
variable {n d b p q i:Nat}{h h0:AHeap}{u:z11}{Q:ARes→AHeap→Prop}{S:List Nat}{xs rs T:List ze7}{w:List Nat}{x:R}{k:AV→AHeap→R}{t:Nd}{c:List AV}{v:AV}
theorem StepN.ok_of(kk:Wp x fun r h'=>∃c T,r=.ret (.agg c)∧NodeT t c T∧Mem [b] h h' ((b,TRd,rdP u p)::T)):StepN b u h x (.ok (t,p)):=by
 obtain⟨_,h',e,c,T,rfl,k1,k2⟩:=kk;exact⟨c,T,h',e,k1,k2⟩
theorem StepN.err_of(kk:Wp x fun r h'=>r=.panic (z28a 6 q)∧∃p,Rd h' b u p∧Tch [b] h h'):StepN b u h x (.error q):=by
 obtain⟨_,h',e,rfl,p,k1,k2⟩:=kk;exact⟨h',p,e,k1,k2⟩
theorem y25(hx:StepN b u h x (.ok (t,p)))(M:Mem S h0 h ((b,TRd,rdP u i)::rs))(hk:∀c T h',NodeT t c T→Mem S h0 h' ((b,TRd,rdP u p)::(rs++T))→Wp (k (.agg c) h') Q):Wp (callK x k) Q:=by
 obtain⟨c,T,h',e,kt,M'⟩:=hx;exact Wp.callK e (hk c T h' kt (y3f (xs:=[_]) (ys:=[_]) M M'))
theorem y2f(hx:StepN b u h x (.error q))(M:Mem S h0 h ((b,TRd,rdP u i)::rs))(hq:∀h' p,Rd h' b u p→Tch S h0 h'→Q (.panic (z28a 6 q)) h'):Wp (callK x k) Q:=by
 obtain⟨h',p,e,k1,k2⟩:=hx;exact y19 e (hq h' p k1 (y18 (xs:=[]) M k2 k1).tch)
theorem y2b(hx:Step b u h x (.ok (v,p)))(M:Mem S h0 h ((b,TRd,rdP u i)::rs))(hk:∀h',Mem S h0 h' ((b,TRd,rdP u p)::rs)→Wp (k v h') Q):Wp (callK x k) Q:=
 y2a hx fun h' k1 t1=>hk h' (y18 (xs:=[]) M t1 k1)
theorem y3a(hx:Step b u h x (.ok (v,p)))(M:Mem S h0 h ((b,TRd,rdP u i)::rs))(hk:∀h',Mem S h0 h' ((b,TRd,rdP u p)::rs)→Wp (k v h') Q):Wp (callN x k) Q:=
 y29 hx fun h' k1 t1=>hk h' (y18 (xs:=[]) M t1 k1)
theorem y4f(hx:Step b u h x (.error (6,q)))(M:Mem S h0 h ((b,TRd,rdP u i)::rs))(hq:∀h' p,Rd h' b u p→Tch S h0 h'→Q (.panic (z28a 6 q)) h'):Wp (callK x k) Q:=
 y44 hx fun h' p k1 t1=>hq h' p k1 (y18 (xs:=[]) M t1 k1).tch
theorem z8b{r0:Nat}{l:List AV}(M:Mem S h0 h ((b,TRd,rdP u p)::(r0,z28,l)::T))(hl:l.length=6)(kt:NodeT t c T):Wp (obind (z17 h 6 c (.ptr r0 0)) fun h1=>obind (z18 h1 6 (.ptr r0 0)) fun w=>some (.ret (.agg w),h1)) fun r h'=>∃c T,r=.ret (.agg c)∧NodeT t c T∧Mem S h0 h' ((b,TRd,rdP u p)::T):=by
 refine y24 M kt.len hl kt.one fun h1 M1=>?_;refine y20 M1 kt.len ?_;exact Wp.ret ⟨c,T,rfl,kt,z26e (xs:=[_]) (T0:=[_]) M1⟩
theorem atom_ok(hu:u.length≤1000000){m:Nat}(ih:∀m',m=m'+1→AltOk u m'):AtomOk u m:=by
 intro i hi hm;cases hc:at? u i with
 |none=>
  refine⟨_,.none hc,hi,?_⟩;intro n D b h hD hn hn2 k0 hb hx;obtain⟨D,rfl⟩:∃D',D=D'+6:=⟨D - 6,by omega⟩;refine StepN.err_of ?_;rw[z24];unfold z1c;have Mx:=Mem.one k0 hb
  repeat(first|((with_reducible apply y9 Mx);clear Mx;intro _ Mx)|rw[z10])
  have M1:=Mx.swap;have hs:=zbd (n:=n) (d:=D+3) M1.at0.1 M1.at0.2.1 hi hu;rw[hc] at hs;exact y4f hs M1 fun h' p k1 t1=>⟨rfl,p,k1,t1⟩
 |some c=>
  obtain⟨hp,_⟩:=at?_some hc;have h256:=at?_256 hc
  by_cases h40:c=40
  ·subst h40
   obtain⟨m',rfl⟩:∃m',m=m'+1:=⟨m - 1,by omega⟩;obtain⟨r,r1,r2,r3⟩:=ih m' rfl (i+1) (by omega) (by omega)
   cases r with
   |error q=>
    refine⟨_,.open_bad hc r1,r2,?_⟩;intro n D b h hD hn hn2 k0 hb hx;obtain⟨D,rfl⟩:∃D',D=D'+6:=⟨D - 6,by omega⟩;refine StepN.err_of ?_;rw[z24];unfold z1c;have Mx:=Mem.one k0 hb
    repeat(first|((with_reducible apply y9 Mx);clear Mx;intro _ Mx)|rw[z10])
    have M1:=Mx.swap;have hs:=zbd (n:=n) (d:=D+3) M1.at0.1 M1.at0.2.1 hi hu;rw[hc] at hs;refine y2b hs M1 fun h1 M2=>?_;have hs2:=r3 (n:=n) (D:=D+5) (by omega) hn hn2 M2.at0.1 M2.at0.2.1 (by rw[M2.ex];exact hx)
    repeat(first|(with_reducible first|refine Wp.lett ?_|(apply Wp.obind;exact z5 _ _))|((with_reducible refine y8 ?_ ?_;apply z88);omega))
    exact y2f hs2 M2 fun h' p k1 t1=>⟨rfl,p,k1,t1⟩
   |ok tj=>
    obtain⟨t,j⟩:=tj;obtain⟨b1,b2⟩:=r2
    by_cases h41:at? u j=some 41
    ·obtain ⟨hj, _⟩ := at?_some h41
     refine⟨_,.group hc r1 h41,⟨by omega,by omega⟩,?_⟩;intro n D b h hD hn hn2 k0 hb hx;obtain⟨D,rfl⟩:∃D',D=D'+6:=⟨D - 6,by omega⟩;refine StepN.ok_of ?_;rw[z24];unfold z1c;have Mx:=Mem.one k0 hb
     repeat(first|((with_reducible apply y9 Mx);clear Mx;intro _ Mx)|rw[z10])
     have M1:=Mx.swap;have hs:=zbd (n:=n) (d:=D+3) M1.at0.1 M1.at0.2.1 hi hu;rw[hc] at hs;refine y2b hs M1 fun h1 M2=>?_;have hs2:=r3 (n:=n) (D:=D+5) (by omega) hn hn2 M2.at0.1 M2.at0.2.1 (by rw[M2.ex];exact hx)
     repeat(first|(with_reducible first|refine Wp.lett ?_|(apply Wp.obind;exact z5 _ _))|((with_reducible refine y8 ?_ ?_;apply z88);omega))
     refine y25 hs2 M2 fun c T h2 kt M3=>?_
     (((with_reducible apply Wp.obind);(with_reducible exact z13 _)))
     refine y9 M3 fun h3 M4=>?_;rw[z10];refine y11 M4 kt.len rfl kt.one fun h4 M5=>?_;have M6:=M5.swap;have hs3:=take_r (n:=n) (d:=D+1) M6.at0.1 M6.at0.2.1 b2 hu 41;rw[if_pos h41] at hs3;refine y2b hs3 M6 fun h5 M7=>?_;refine y20 M7 kt.len ?_;exact z8b (z26e (xs:=[_]) (T0:=[_]) M7) rfl kt
    ·refine ⟨_, .open_end hc r1 h41, b2, ?_⟩
     intro n D b h hD hn hn2 k0 hb hx;obtain⟨D,rfl⟩:∃D',D=D'+6:=⟨D - 6,by omega⟩;refine StepN.err_of ?_;rw[z24];unfold z1c;have Mx:=Mem.one k0 hb
     repeat(first|((with_reducible apply y9 Mx);clear Mx;intro _ Mx)|rw[z10])
     have M1:=Mx.swap;have hs:=zbd (n:=n) (d:=D+3) M1.at0.1 M1.at0.2.1 hi hu;rw[hc] at hs;refine y2b hs M1 fun h1 M2=>?_;have hs2:=r3 (n:=n) (D:=D+5) (by omega) hn hn2 M2.at0.1 M2.at0.2.1 (by rw[M2.ex];exact hx)
     repeat(first|(with_reducible first|refine Wp.lett ?_|(apply Wp.obind;exact z5 _ _))|((with_reducible refine y8 ?_ ?_;apply z88);omega))
     refine y25 hs2 M2 fun c T h2 kt M3=>?_
     (((with_reducible apply Wp.obind);(with_reducible exact z13 _)))
     refine y9 M3 fun h3 M4=>?_;rw[z10];refine y11 M4 kt.len rfl kt.one fun h4 M5=>?_;have M6:=M5.swap;have hs3:=take_r (n:=n) (d:=D+1) M6.at0.1 M6.at0.2.1 b2 hu 41;rw[if_neg h41] at hs3;exact y4f hs3 M6 fun h' p k1 t1=>⟨rfl,p,k1,t1⟩
  by_cases h46:c=46
  ·subst h46
   refine⟨_,.any hc,⟨by omega,by omega⟩,?_⟩;intro n D b h hD hn hn2 k0 hb hx;obtain⟨D,rfl⟩:∃D',D=D'+6:=⟨D - 6,by omega⟩;refine StepN.ok_of ?_;rw[z24];unfold z1c;have Mx:=Mem.one k0 hb
   repeat(first|((with_reducible apply y9 Mx);clear Mx;intro _ Mx)|rw[z10])
   have M1:=Mx.swap;have hs:=zbd (n:=n) (d:=D+3) M1.at0.1 M1.at0.2.1 hi hu;rw[hc] at hs;refine y2b hs M1 fun h1 M2=>?_
   repeat(first|(with_reducible first|refine Wp.lett ?_|(apply Wp.obind;first|exact z5 _ _|exact z13 _))|((with_reducible refine y8 ?_ ?_;apply z88);omega)|((with_reducible refine y7 ?_ ?_;apply z99);omega)|(with_reducible apply Wp.callN;exact z2e7 (d:=D+3) hn))
   exact z8b M2 rfl (y23 2 z366)
  by_cases h91:c=91
  ·subst h91
   obtain⟨r,r1,r2,r2',r3⟩:=z4ab hu (i:=i+1) (by omega)
   cases r with
   |error q=>
    refine⟨_,.set_bad hc r1,r2' q rfl,?_⟩;intro n D b h hD hn hn2 k0 hb hx;obtain⟨D,rfl⟩:∃D',D=D'+6:=⟨D - 6,by omega⟩;refine StepN.err_of ?_;rw[z24];unfold z1c;have Mx:=Mem.one k0 hb
    repeat(first|((with_reducible apply y9 Mx);clear Mx;intro _ Mx)|rw[z10])
    have M1:=Mx.swap;have hs:=zbd (n:=n) (d:=D+3) M1.at0.1 M1.at0.2.1 hi hu;rw[hc] at hs;refine y2b hs M1 fun h1 M2=>?_;have hs2:=r3 (n:=n) (d:=D) hn (by omega) M2.at0.1 M2.at0.2.1
    repeat(first|(with_reducible first|refine Wp.lett ?_|(apply Wp.obind;exact z5 _ _))|((with_reducible refine y8 ?_ ?_;apply z88);omega)|((with_reducible refine y7 ?_ ?_;apply z99);omega))
    exact y4f hs2 M2 fun h' p k1 t1=>⟨rfl,p,k1,t1⟩
   |ok wj=>
    obtain⟨w,j⟩:=wj;obtain⟨o1,o2,o3⟩:=r2 w j rfl;refine⟨_,.set hc r1,⟨by omega,o3⟩,?_⟩;intro n D b h hD hn hn2 k0 hb hx;obtain⟨D,rfl⟩:∃D',D=D'+6:=⟨D - 6,by omega⟩;refine StepN.ok_of ?_;rw[z24];unfold z1c;have Mx:=Mem.one k0 hb
    repeat(first|((with_reducible apply y9 Mx);clear Mx;intro _ Mx)|rw[z10])
    have M1:=Mx.swap;have hs:=zbd (n:=n) (d:=D+3) M1.at0.1 M1.at0.2.1 hi hu;rw[hc] at hs;refine y2b hs M1 fun h1 M2=>?_;have hs2:=r3 (n:=n) (d:=D) hn (by omega) M2.at0.1 M2.at0.2.1
    repeat(first|(with_reducible first|refine Wp.lett ?_|(apply Wp.obind;exact z5 _ _))|((with_reducible refine y8 ?_ ?_;apply z88);omega)|((with_reducible refine y7 ?_ ?_;apply z99);omega))
    refine y2b hs2 M2 fun h2 M3=>?_;have hb2:=setBld o1
    repeat(((with_reducible apply Wp.obind);(with_reducible first|exact hb2|exact z13 _)))
    exact z8b M3 rfl (y23 2 o1)
  by_cases h92:c=92
  ·subst h92
   cases he:at? u (i+1) with
   |none=>
    refine⟨_,.sl_end hc he,(by show i+1≤u.length;omega),?_⟩;intro n D b h hD hn hn2 k0 hb hx;obtain⟨D,rfl⟩:∃D',D=D'+6:=⟨D - 6,by omega⟩;refine StepN.err_of ?_;rw[z24];unfold z1c;have Mx:=Mem.one k0 hb
    repeat(first|((with_reducible apply y9 Mx);clear Mx;intro _ Mx)|rw[z10])
    have M1:=Mx.swap;have hs:=zbd (n:=n) (d:=D+3) M1.at0.1 M1.at0.2.1 hi hu;rw[hc] at hs;refine y2b hs M1 fun h1 M2=>?_;have hs2:=zbd (n:=n) (d:=D+3) M2.at0.1 M2.at0.2.1 (by omega) hu;rw[he] at hs2
    repeat(first|(with_reducible first|refine Wp.lett ?_|(apply Wp.obind;exact z5 _ _))|((with_reducible refine y8 ?_ ?_;apply z88);omega)|((with_reducible refine y7 ?_ ?_;apply z99);omega))
    exact y4f hs2 M2 fun h' p k1 t1=>⟨rfl,p,k1,t1⟩
   |some e=>
    obtain⟨hp2,_⟩:=at?_some he;refine⟨_,.sl hc he,⟨by omega,by omega⟩,?_⟩;intro n D b h hD hn hn2 k0 hb hx;obtain⟨D,rfl⟩:∃D',D=D'+6:=⟨D - 6,by omega⟩;refine StepN.ok_of ?_;rw[z24];unfold z1c;have Mx:=Mem.one k0 hb
    repeat(first|((with_reducible apply y9 Mx);clear Mx;intro _ Mx)|rw[z10])
    have M1:=Mx.swap;have hs:=zbd (n:=n) (d:=D+3) M1.at0.1 M1.at0.2.1 hi hu;rw[hc] at hs;refine y2b hs M1 fun h1 M2=>?_;have hs2:=zbd (n:=n) (d:=D+3) M2.at0.1 M2.at0.2.1 (by omega) hu;rw[he] at hs2
    repeat(first|(with_reducible first|refine Wp.lett ?_|(apply Wp.obind;exact z5 _ _))|((with_reducible refine y8 ?_ ?_;apply z88);omega)|((with_reducible refine y7 ?_ ?_;apply z99);omega))
    refine y2b hs2 M2 fun h2 M3=>?_
    repeat(with_reducible first|(apply Wp.obind;first|exact z5 _ _|exact z13 _)|(apply Wp.callN;exact z1d0 (d:=D+3) hn (at?_256 he)))
    exact z8b M3 rfl (y23 2 (z12f 1 z89 e))
  by_cases hbad:z11e c
  ·refine ⟨_, .bad hc hbad, hi, ?_⟩
   intro n D b h hD hn hn2 k0 hb hx;obtain⟨D,rfl⟩:∃D',D=D'+6:=⟨D - 6,by omega⟩;refine StepN.err_of ?_;rw[z24];unfold z1c;have Mx:=Mem.one k0 hb
   repeat(first|((with_reducible apply y9 Mx);clear Mx;intro _ Mx)|rw[z10])
   have M1:=Mx.swap;have hs:=zbd (n:=n) (d:=D+3) M1.at0.1 M1.at0.2.1 hi hu;rw[hc] at hs;refine y2b hs M1 fun h1 M2=>?_;have hr:=z1ca (n:=n) (d:=D+3) M2.at0.1 (by omega) hu
   rcases hbad with hs|hs|hs|hs|hs|hs
   ·repeat (first | (with_reducible first | (first | refine y10 (fun _ _ => ?_) | refine yc (fun _ _ => ?_)) | refine Wp.lett ?_ | (apply Wp.obind; exact z5 _ _)) | ((with_reducible refine y8 ?_ ?_); first | (with_reducible rfl) | ((with_reducible apply z88); omega)) | ((with_reducible refine y7 ?_ ?_; apply z99); omega) | (with_reducible refine ye (by assumption) ?_))
    exact y19 hr ⟨rfl,_,M2.at0.1,M2.tch⟩
   ·repeat (first | (with_reducible first | (first | refine y10 (fun _ _ => ?_) | refine yc (fun _ _ => ?_)) | refine Wp.lett ?_ | (apply Wp.obind; exact z5 _ _)) | ((with_reducible refine y8 ?_ ?_); first | (with_reducible rfl) | ((with_reducible apply z88); omega)) | ((with_reducible refine y7 ?_ ?_; apply z99); omega) | (with_reducible refine ye (by assumption) ?_))
    exact y19 hr ⟨rfl,_,M2.at0.1,M2.tch⟩
   ·repeat (first | (with_reducible first | (first | refine y10 (fun _ _ => ?_) | refine yc (fun _ _ => ?_)) | refine Wp.lett ?_ | (apply Wp.obind; exact z5 _ _)) | ((with_reducible refine y8 ?_ ?_); first | (with_reducible rfl) | ((with_reducible apply z88); omega)) | ((with_reducible refine y7 ?_ ?_; apply z99); omega) | (with_reducible refine ye (by assumption) ?_))
    exact y19 hr ⟨rfl,_,M2.at0.1,M2.tch⟩
   ·repeat (first | (with_reducible first | (first | refine y10 (fun _ _ => ?_) | refine yc (fun _ _ => ?_)) | refine Wp.lett ?_ | (apply Wp.obind; exact z5 _ _)) | ((with_reducible refine y8 ?_ ?_); first | (with_reducible rfl) | ((with_reducible apply z88); omega)) | ((with_reducible refine y7 ?_ ?_; apply z99); omega) | (with_reducible refine ye (by assumption) ?_))
    exact y19 hr ⟨rfl,_,M2.at0.1,M2.tch⟩
   ·repeat (first | (with_reducible first | (first | refine y10 (fun _ _ => ?_) | refine yc (fun _ _ => ?_)) | refine Wp.lett ?_ | (apply Wp.obind; exact z5 _ _)) | ((with_reducible refine y8 ?_ ?_); first | (with_reducible rfl) | ((with_reducible apply z88); omega)) | ((with_reducible refine y7 ?_ ?_; apply z99); omega) | (with_reducible refine ye (by assumption) ?_))
    exact y19 hr ⟨rfl,_,M2.at0.1,M2.tch⟩
   ·have h93 : ((c : Int) == 93) = true := z88 (by omega)
    repeat(first|(with_reducible first|(first|refine y10 (fun _ _=>?_)|refine yc (fun _ _=>?_))|refine Wp.lett ?_|(apply Wp.obind;exact z5 _ _)|(refine y8 ?_ ?_;assumption))|((with_reducible refine y7 ?_ ?_;apply z99);omega)|(with_reducible refine ye (by assumption) ?_))
    exact y19 hr ⟨rfl,_,M2.at0.1,M2.tch⟩
  ·refine ⟨_, .one hc hbad ⟨h40, h46, h91, h92⟩, ⟨by omega, by omega⟩, ?_⟩
   intro n D b h hD hn hn2 k0 hb hx;obtain⟨D,rfl⟩:∃D',D=D'+6:=⟨D - 6,by omega⟩;refine StepN.ok_of ?_;rw[z24];unfold z1c;have Mx:=Mem.one k0 hb
   repeat(first|((with_reducible apply y9 Mx);clear Mx;intro _ Mx)|rw[z10])
   have M1:=Mx.swap;have hs:=zbd (n:=n) (d:=D+3) M1.at0.1 M1.at0.2.1 hi hu;rw[hc] at hs;refine y2b hs M1 fun h1 M2=>?_;unfold z11e at hbad;have h93:((c:Int) == 93)=false:=z99 (by omega)
   repeat(first|(with_reducible first|(first|refine y10 (fun _ _=>?_)|refine yc (fun _ _=>?_))|refine Wp.lett ?_|(apply Wp.obind;first|exact z5 _ _|exact z13 _))|((with_reducible refine y7 ?_ ?_);first|(with_reducible assumption)|((with_reducible apply z99);omega))|(with_reducible first|(apply Wp.callN;exact z1d0 (d:=D+3) hn h256)|(first|refine y26 (by assumption) ?_|refine ye (by assumption) ?_)))
   exact z8b M2 rfl (y23 2 (z12f 1 z89 c))
end
end Go.Proofs.YtpdepoeanhibiaaDoor
