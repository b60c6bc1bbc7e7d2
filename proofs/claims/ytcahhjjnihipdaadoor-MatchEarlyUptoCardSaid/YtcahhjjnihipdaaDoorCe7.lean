/- What matchEarlyUpto_proved stands on, part 7 of 11. -/
import Derived.Test.YtcahhjjnihipdaaDoorCe6
namespace Go.Proofs.YtcahhjjnihipdaaDoor
open Go.RowKit Abs
noncomputable def zd2(call:zc)(t1:Bytes)(h:AHeap)(v14:AV)(k20:AHeap→R)(self:Int→AHeap→R)(t21:Int)(h_28:AHeap):R:=lett (decide (t21<(z115 t1))) fun (t22:Bool)=>ifB t22 (obind (idxS t1 t21) fun t28=>callN (call 30 [v14,.int .u8 t28,.int .i64 t21] h_28) fun r30 h_37=>obind (z153 0 r30) fun v31=>obind (z65 v31) fun t31=>obind (z153 1 r30) fun v32=>obind (z23 v32) fun t32=>lett (newH h_37 26 [.int .i64 0,.int .i64 0,.int .i64 0]) fun h_43=>obind (z15 h_43 3 t31 (z6 h_37)) fun h_45=>ifB t32 (obind (z16 h_45 3 (z6 h_37)) fun t34=>obind (z15 h_45 3 t34 (z6 h)) fun h_50=>obind (z16 h_50 3 (z6 h)) fun w4_53=>some (.ret (.tup [.agg w4_53,.bool true]),h_50)) (lett (IntKind.i64.wrap (t21+1)) fun (t35:Int)=>self t35 h_45)) (k20 h_28)
noncomputable def zea(call:zc)(t1:Bytes)(h:AHeap)(v14:AV)(k20:AHeap→R):Nat→Int→AHeap→R:=ze6 (fun _ _=>none) (zd2 call t1 h v14 k20)
theorem z133(call:zc)(t1:Bytes)(h:AHeap)(v14:AV)(k20:AHeap→R)(m:Nat):zea call t1 h v14 k20 (m+1)=zd2 call t1 h v14 k20 (zea call t1 h v14 k20 m):=rfl
noncomputable def zf8(call:zc)(n:Nat)(t0:AV)(t1:Bytes)(h:AHeap):R:=lett (newH h 26 [.int .i64 0,.int .i64 0,.int .i64 0]) fun h_2=>callN (call 29 [t0] h_2) fun r13 h_5=>obind (z153 0 r13) fun v14=>obind (z153 1 r13) fun v15=>obind (avInt .i64 v15) fun t15=>lett ((t15:Int) != 0) fun (t17:Bool)=>ifB t17 (obind (z15 h_5 3 ([.int .i64 0,.int .i64 0,.int .i64 0]:List AV) (z6 h)) fun h_14=>obind (z16 h_14 3 (z6 h)) fun w4=>some (.ret (.tup [.agg w4,.bool false]),h_14)) (lett (fun (h_21:AHeap)=>obind (z15 h_21 3 ([.int .i64 0,.int .i64 0,.int .i64 0]:List AV) (z6 h)) fun h_23=>obind (z16 h_23 3 (z6 h)) fun w4_26=>some (.ret (.tup [.agg w4_26,.bool false]),h_23)) fun k20=>zea call t1 h v14 k20 n 0 h_5)
set_option maxHeartbeats 4000000 in
set_option maxRecDepth 20000 in
theorem z2e9{call:zc}(hc:SaysAll Tryd.prog call){n:Nat}{t0:AV}{t1:Bytes}{h:AHeap}{rR:ARes}{hR:AHeap}(hF:zf8 call n t0 t1 h=some (rR,hR)):Says Tryd.prog 14 [t0,strA t1] h rR hR:=by
 unfold zf8 at hF;refine sO Tryd.func14 fun w0 m0=>?_;refine wW [(0,t0),(1,strA t1)] ?_;refine oG fun n1=>W.r ?_;refine oN 4 hF fun h_2 hF=>?_;refine oA 5 (.bool false) ?_;refine oV [(0,t0),(1,strA t1),(4,(z6 h))] (n1 ?_);refine oG fun n4=>W.r ?_;refine oA 12 t0 ?_;refine oC hc (some 13) hF fun r13 h_5 hF=>?_;refine oA 11 r13 ?_;refine oE 14 hF fun v14 hF=>?_;refine oEi 15 hF fun t15 hF=>?_;refine oA 6 v14 ?_;refine oA 7 (.int .i64 t15) ?_;refine oV [(1,strA t1),(4,(z6 h)),(6,v14),(7,.int .i64 t15)] (n4 ?_);refine oH fun n10 q10=>?_;refine oG fun n11=>W.r ?_;refine oA 16 (.int .i64 t15) ?_;refine oB 17 hF fun t17 hF=>?_;refine oV [(1,strA t1),(4,(z6 h)),(6,v14),(17,.bool t17)] (n11 ?_)
 cases t17 with
 |true=>
  refine oT hF fun hF=>?_;refine oG fun n13=>W.r ?_;refine oA 18 (.agg ([.int .i64 0,.int .i64 0,.int .i64 0]:List AV)) ?_;refine oW 26 (.agg ([.int .i64 0,.int .i64 0,.int .i64 0]:List AV)) hF fun h_14 hF=>?_;refine oA 5 (.bool false) ?_;refine oV [(4,(z6 h)),(5,.bool false)] (n13 (oY (q10 ?_)));obtain⟨w4,e16,hF⟩:=z3 hF;exact lZ hF [.cell 4 26,.tmp 5] [.agg w4,.bool false] (rY e16 (rT zd))
 |false=>
  refine oU hF fun hF=>?_;refine oZ (n10 ?_);refine W.s (fun K17 n17 e17 q17 p17=>?_);refine oG fun n18=>W.r ?_;refine oA 19 (strA t1) ?_;refine oA 20 (.int .i64 (z115 t1)) ?_;refine oA 21 (.int .i64 0) ?_;refine oV [(1,strA t1),(4,(z6 h)),(6,v14),(20,.int .i64 (z115 t1)),(21,.int .i64 0)] (n18 ?_);obtain⟨k20,e20,hF⟩:=z9 hF
  have J20:∀(h_21:AHeap),k20 h_21=some (rR,hR)→Go w0 m0 (Func.ntmps Tryd.f14) (K17 .normal) [(4,(z6 h))] [] h_21:=by
   intro h_21 hF;rw[e20] at hF;refine n17 ?_;refine oG fun n22=>W.r ?_;refine oA 36 (.agg ([.int .i64 0,.int .i64 0,.int .i64 0]:List AV)) ?_;refine oW 26 (.agg ([.int .i64 0,.int .i64 0,.int .i64 0]:List AV)) hF fun h_23 hF=>?_;refine oA 5 (.bool false) ?_;refine oV [(4,(z6 h)),(5,.bool false)] (n22 (oY ?_));obtain⟨w4_26,e25,hF⟩:=z3 hF;exact lZ hF [.cell 4 26,.tmp 5] [.agg w4_26,.bool false] (rY e25 (rT zd))
  refine yc (by kernel_rfl) (fun K19 n19 s19 o19 q19 p19=>?_);refine y14 (by kernel_rfl) (fun I27 K27 b27 n27 e27 q27 p27=>?_)
  have L27:∀(m:Nat) (t21:Int) (h_28:AHeap),zea call t1 h v14 k20 m t21 h_28=some (rR,hR)→Go w0 m0 (Func.ntmps Tryd.f14) I27 [(1,strA t1),(4,(z6 h)),(6,v14),(20,.int .i64 (z115 t1)),(21,.int .i64 t21)] [] h_28:=by
   intro m
   induction m with
   |zero=>intro t21 h_28 hF;cases hF
   |succ m ih27=>
    intro t21 h_28 hF;rw[z133] at hF;unfold zd2 at hF;refine b27 ?_;refine oG fun n29=>W.r ?_;refine oB 22 hF fun t22 hF=>?_;refine oV [(1,strA t1),(4,(z6 h)),(6,v14),(20,.int .i64 (z115 t1)),(21,.int .i64 t21),(22,.bool t22)] (n29 ?_);refine W.s (fun K31 n31 e31 q31 p31=>?_)
    cases t22 with
    |true=>
     refine oT hF fun hF=>?_;refine oZ (n31 ?_);refine oH fun n32 q32=>?_;refine yc (by kernel_rfl) (fun K33 n33 s33 o33 q33 p33=>?_);refine oG fun n34=>W.r ?_;refine oA 23 (.int .i64 t21) ?_;refine oA 8 (.int .i64 t21) ?_;refine oV [(1,strA t1),(4,(z6 h)),(6,v14),(8,.int .i64 t21),(20,.int .i64 (z115 t1)),(21,.int .i64 t21)] (n34 ?_);refine oG fun n35=>W.r ?_;refine oA 25 v14 ?_;refine oA 26 (strA t1) ?_;refine oA 27 (.int .i64 t21) ?_;refine oX 28 9 .i64 hF fun t28 hF=>?_;refine oA 29 (.int .i64 t21) ?_;refine oC hc (some 30) hF fun r30 h_37 hF=>?_;refine oA 24 r30 ?_;refine oEa 31 hF fun t31 hF=>?_;refine oEb 32 hF fun t32 hF=>?_;refine oN 9 hF fun h_43 hF=>?_;refine oW 26 (.agg t31) hF fun h_45 hF=>?_;refine oA 10 (.bool t32) ?_;refine oV [(1,strA t1),(4,(z6 h)),(6,v14),(9,(z6 h_37)),(10,.bool t32),(20,.int .i64 (z115 t1)),(21,.int .i64 t21)] (n35 ?_);refine oG fun n47=>W.r ?_;refine oA 33 (.bool t32) ?_;refine oV [(1,strA t1),(4,(z6 h)),(6,v14),(9,(z6 h_37)),(20,.int .i64 (z115 t1)),(21,.int .i64 t21),(33,.bool t32)] (n47 ?_)
     cases t32 with
     |true=>
      refine oT hF fun hF=>?_;refine oG fun n48=>W.r ?_;refine oR 34 26 hF fun t34 hF=>?_;refine oW 26 (.agg t34) hF fun h_50 hF=>?_;refine oA 5 (.bool true) ?_;refine oV [(4,(z6 h)),(5,.bool true)] (n48 (oY (q33 (q32 (q27 (q19 (q17 ?_)))))));obtain⟨w4_53,e52,hF⟩:=z3 hF;exact lZ hF [.cell 4 26,.tmp 5] [.agg w4_53,.bool true] (rY e52 (rT zd))
     |false=>
      refine oU hF fun hF=>?_;refine oZ (n33 (n32 (W.r ?_)));refine oI 35 .i64 hF fun t35 hF=>?_;refine oA 21 (.int .i64 t35) ?_;refine oV [(1,strA t1),(4,(z6 h)),(6,v14),(20,.int .i64 (z115 t1)),(21,.int .i64 t35)] (n27 ?_);exact gW _ (ih27 _ _ hF)
    |false=>
     refine oU hF fun hF=>?_;refine W.exit (by kernel_rfl) ?_;refine e31 (e27 ?_);refine s19 (by kernel_rfl) ?_;exact gW _ (J20 _ hF)
  exact gW _ (L27 _ _ _ hF)
noncomputable def z91(call:zc)(t0:AV)(t18:Int)(k15:AV→AHeap→R)(self:AV→Int→AHeap→R)(t4_19:AV)(t19:Int)(h_20:AHeap):R:=lett (decide (t19<t18)) fun (t20:Bool)=>ifB t20 (obind (z1a8 2 t0 t19) fun t21=>obind (z16 h_20 2 t21) fun t22=>lett (newH h_20 51 [.int .i64 0,.str 0 0]) fun h_29=>obind (z15 h_29 2 t22 (z6 h_20)) fun h_31=>obind (z16 h_31 2 (z6 h_20)) fun t24=>callN (call 25 [.agg t24] h_31) fun r25 h_35=>obind (z153 0 r25) fun v26=>obind (z153 1 r25) fun v27=>obind (avInt .i64 v27) fun t27=>lett ((t27:Int) != 0) fun (t29:Bool)=>lett (fun (t33:Bool) (h_43:AHeap)=>ifB t33 (some (.ret (.tup [AV.nsl,.int .i64 2]),h_43)) (obind (z2d3 Tryd.prog 97 [(0,v26)]) fun t36=>outK (z16e Tryd.prog h_43 58 1 [(0,.agg t36)]) fun v37 h_48=>outK (z7e Tryd.prog h_48 58 58 t4_19 v37) fun v38 h_50=>lett (IntKind.i64.wrap (t19+1)) fun (t39:Int)=>self v38 t39 h_50)) fun j33=>ifB t29 (j33 true h_35) (obind (z16 h_35 2 (z6 h_20)) fun t31=>callN (call 44 [.agg t31] h_35) fun r32 h_54=>obind (z23 r32) fun t32=>j33 t32 h_54)) (k15 t4_19 h_20)
noncomputable def za5(call:zc)(t0:AV)(t18:Int)(k15:AV→AHeap→R):Nat→AV→Int→AHeap→R:=ze6 (fun _ _ _=>none) (z91 call t0 t18 k15)
theorem zde(call:zc)(t0:AV)(t18:Int)(k15:AV→AHeap→R)(m:Nat):za5 call t0 t18 k15 (m+1)=z91 call t0 t18 k15 (za5 call t0 t18 k15 m):=rfl
noncomputable def zd0(call:zc)(n:Nat)(t0:AV)(h:AHeap):R:=obind (z17d t0) fun t10=>lett ((t10:Int) == 0) fun (t11:Bool)=>lett (fun (t16:Bool) (h_6:AHeap)=>ifB t16 (some (.ret (.tup [AV.nsl,.int .i64 2]),h_6)) (obind (z17d t0) fun t18=>lett (fun (t4:AV) (h_16:AHeap)=>some (.ret (.tup [t4,.int .i64 0]),h_16)) fun k15=>za5 call t0 t18 k15 n AV.nsl 0 h_6)) fun j16=>ifB t11 (j16 true h) (obind (z17d t0) fun t14=>lett (decide (t14>8)) fun (t15:Bool)=>j16 t15 h)
set_option maxHeartbeats 4000000 in
set_option maxRecDepth 20000 in
theorem z2b9{call:zc}(hc:SaysAll Tryd.prog call){n:Nat}{t0:AV}{h:AHeap}{rR:ARes}{hR:AHeap}(hF:zd0 call n t0 h=some (rR,hR)):Says Tryd.prog 29 [t0] h rR hR:=by
 unfold zd0 at hF;refine sO Tryd.func29 fun w0 m0=>?_;refine wW [(0,t0)] ?_;refine oG fun n1=>W.r ?_;refine oA 2 AV.nsl ?_;refine oA 3 (.int .i64 0) ?_;refine oV [(0,t0)] (n1 ?_);refine oH fun n2 q2=>?_;refine W.s (fun K3 n3 e3 q3 p3=>?_);refine W.r ?_;refine oA 9 t0 ?_;refine oM 10 22 51 hF fun t10 hF=>?_;refine oB 11 hF fun t11 hF=>?_;refine oA 12 (.bool t11) ?_;obtain⟨j16,e7,hF⟩:=z9 hF
 have J8:∀(t16:Bool) (h_6:AHeap),j16 t16 h_6=some (rR,hR)→WL Tryd.prog w0 m0 (Func.ntmps Tryd.f29) (Code.ops (y4 (y4 (y3 (z55 Tryd.f29))))) 8 K3 [(0,t0),(16,.bool t16)] [] h_6:=by
  intro t16 h_6 hF;rw[e7] at hF;refine oV [(0,t0),(16,.bool t16)] (n3 ?_)
  cases t16 with
  |true=>
   refine oT hF fun hF=>?_;refine oG fun n9=>W.r ?_;refine oA 2 AV.nsl ?_;refine oA 3 (.int .i64 2) ?_;refine oV [(2,AV.nsl),(3,.int .i64 2)] (n9 (oY (q2 ?_)));exact lZ hF [.tmp 2,.tmp 3] [AV.nsl,.int .i64 2] (rT (rT zd))
  |false=>
   refine oU hF fun hF=>?_;refine oZ (n2 ?_);refine oG fun n10=>W.r ?_;refine oA 4 AV.nsl ?_;refine oV [(0,t0),(4,AV.nsl)] (n10 ?_);refine W.s (fun K11 n11 e11 q11 p11=>?_);refine oG fun n12=>W.r ?_;refine oA 17 t0 ?_;refine oM 18 22 51 hF fun t18 hF=>?_;refine oA 19 (.int .i64 0) ?_;refine oV [(4,AV.nsl),(17,t0),(18,.int .i64 t18),(19,.int .i64 0)] (n12 ?_);obtain⟨k15,e15,hF⟩:=z9 hF
   have J15:∀(t4:AV) (h_16:AHeap),k15 t4 h_16=some (rR,hR)→Go w0 m0 (Func.ntmps Tryd.f29) (K11 .normal) [(4,t4)] [] h_16:=by
    intro t4 h_16 hF;rw[e15] at hF;refine n11 ?_;refine oG fun n17=>W.r ?_;refine oA 40 t4 ?_;refine oA 2 t4 ?_;refine oA 3 (.int .i64 0) ?_;refine oV [(2,t4),(3,.int .i64 0)] (n17 (oY ?_));exact lZ hF [.tmp 2,.tmp 3] [t4,.int .i64 0] (rT (rT zd))
   refine yc (by kernel_rfl) (fun K14 n14 s14 o14 q14 p14=>?_);refine y14 (by kernel_rfl) (fun I18 K18 b18 n18 e18 q18 p18=>?_)
   have L18:∀(m:Nat) (t4_19:AV) (t19:Int) (h_20:AHeap),za5 call t0 t18 k15 m t4_19 t19 h_20=some (rR,hR)→Go w0 m0 (Func.ntmps Tryd.f29) I18 [(4,t4_19),(17,t0),(18,.int .i64 t18),(19,.int .i64 t19)] [] h_20:=by
    intro m
    induction m with
    |zero=>intro t4_19 t19 h_20 hF;cases hF
    |succ m ih18=>
     intro t4_19 t19 h_20 hF;rw[zde] at hF;unfold z91 at hF;refine b18 ?_;refine oG fun n21=>W.r ?_;refine oB 20 hF fun t20 hF=>?_;refine oV [(4,t4_19),(17,t0),(18,.int .i64 t18),(19,.int .i64 t19),(20,.bool t20)] (n21 ?_);refine W.s (fun K23 n23 e23 q23 p23=>?_)
     cases t20 with
     |true=>
      refine oT hF fun hF=>?_;refine oZ (n23 ?_);refine oH fun n24 q24=>?_;refine yc (by kernel_rfl) (fun K25 n25 s25 o25 q25 p25=>?_);refine oG fun n26=>W.r ?_;refine oP 21 22 51 .i64 hF fun t21 hF=>?_;refine oR 22 51 hF fun t22 hF=>?_;refine oN 6 hF fun h_29 hF=>?_;refine oW 51 (.agg t22) hF fun h_31 hF=>?_;refine oV [(4,t4_19),(6,(z6 h_20)),(17,t0),(18,.int .i64 t18),(19,.int .i64 t19)] (n26 ?_);refine oG fun n33=>W.r ?_;refine oR 24 51 hF fun t24 hF=>?_;refine oC hc (some 25) hF fun r25 h_35 hF=>?_;refine oA 23 r25 ?_;refine oE 26 hF fun v26 hF=>?_;refine oEi 27 hF fun t27 hF=>?_;refine oA 7 v26 ?_;refine oA 8 (.int .i64 t27) ?_;refine oV [(4,t4_19),(6,(z6 h_20)),(7,v26),(8,.int .i64 t27),(17,t0),(18,.int .i64 t18),(19,.int .i64 t19)] (n33 ?_);refine oH fun n40 q40=>?_;refine W.s (fun K41 n41 e41 q41 p41=>?_);refine W.r ?_;refine oA 28 (.int .i64 t27) ?_;refine oB 29 hF fun t29 hF=>?_;refine oA 30 (.bool t29) ?_;obtain⟨j33,e44,hF⟩:=z9 hF
      have J45:∀(t33:Bool) (h_43:AHeap),j33 t33 h_43=some (rR,hR)→WL Tryd.prog w0 m0 (Func.ntmps Tryd.f29) (Code.ops (y4 (y4 (y3 (y3 (y4 (y4 (y3 (y3 (y4 (y4 (y3 (y4 (y3 (y3 (y3 (z55 Tryd.f29))))))))))))))))) 6 K41 [(4,t4_19),(7,v26),(17,t0),(18,.int .i64 t18),(19,.int .i64 t19),(33,.bool t33)] [] h_43:=by
       intro t33 h_43 hF;rw[e44] at hF;refine oV [(4,t4_19),(7,v26),(17,t0),(18,.int .i64 t18),(19,.int .i64 t19),(33,.bool t33)] (n41 ?_)
       cases t33 with
       |true=>
        refine oT hF fun hF=>?_;refine oG fun n46=>W.r ?_;refine oA 2 AV.nsl ?_;refine oA 3 (.int .i64 2) ?_;refine oV [(2,AV.nsl),(3,.int .i64 2)] (n46 (oY (q40 (q25 (q24 (q18 (q14 (q11 ?_))))))));exact lZ hF [.tmp 2,.tmp 3] [AV.nsl,.int .i64 2] (rT (rT zd))
       |false=>
        refine oU hF fun hF=>?_;refine oZ (n40 (W.r ?_));refine oA 34 t4_19 ?_;refine oA 35 v26 ?_;obtain⟨t36,e47,hF⟩:=z3 hF;refine WL.val (d:=(some 36)) (v:=.agg t36) (h':=h_43) (by kernel_rfl) (by kernel_rfl) (z1e9 (by kernel_rfl) e47) ?_;refine oK 37 hF fun v37 h_48 hF=>?_;refine oK 38 hF fun v38 h_50 hF=>?_;refine oA 4 v38 ?_;refine oV [(4,v38),(17,t0),(18,.int .i64 t18),(19,.int .i64 t19)] (n25 (n24 (W.r ?_)));refine oI 39 .i64 hF fun t39 hF=>?_;refine oA 19 (.int .i64 t39) ?_;refine oV [(4,v38),(17,t0),(18,.int .i64 t18),(19,.int .i64 t39)] (n18 ?_);exact gW _ (ih18 _ _ _ hF)
      cases t29 with
      |true=>
       replace hF:=zc3 hF
       refine WL.o (some 31) ?_;refine WL.o (some 32) ?_;refine oA 33 (.bool true) ?_;exact lW _ (J45 _ _ hF)
      |false=>
       replace hF:=zc4 hF
       refine oR 31 51 hF fun t31 hF=>?_;refine oCb hc 32 hF fun t32 h_54 hF=>?_;refine oA 33 (.bool t32) ?_;exact lW _ (J45 _ _ hF)
     |false=>
      refine oU hF fun hF=>?_;refine W.exit (by kernel_rfl) ?_;refine e23 (e18 ?_);refine s14 (by kernel_rfl) ?_;exact gW _ (J15 _ _ hF)
   exact gW _ (L18 _ _ _ _ hF)
 cases t11 with
 |true=>
  replace hF:=zc3 hF
  refine WL.o (some 13) ?_;refine WL.o (some 14) ?_;refine WL.o (some 15) ?_;refine oA 16 (.bool true) ?_;exact lW _ (J8 _ _ hF)
 |false=>
  replace hF:=zc4 hF
  refine oA 13 t0 ?_;refine oM 14 22 51 hF fun t14 hF=>?_;refine oB 15 hF fun t15 hF=>?_;refine oA 16 (.bool t15) ?_;exact lW _ (J8 _ _ hF)
noncomputable def ze9(call:zc)(t0:AV)(t1:Int)(t2:Int)(h:AHeap)(t12:Int)(k8:AHeap→R)(self:Int→AHeap→R)(t13:Int)(h_15:AHeap):R:=lett (decide (t13<t12)) fun (t14:Bool)=>ifB t14 (obind (z1a8 2 t0 t13) fun t19=>callN (call 45 [t19,.int .u8 t1,.int .i64 t2] h_15) fun r22 h_24=>obind (z153 0 r22) fun v23=>obind (avInt .i64 v23) fun t23=>obind (z153 1 r22) fun v24=>obind (z23 v24) fun t24=>ifB t24 (lett (IntKind.i64.wrap (t2+1)) fun (t29:Int)=>obind (z15 h_24 3 ([.int .i64 t13,.int .i64 t23,.int .i64 t29]:List AV) (z6 h)) fun h_33=>obind (z16 h_33 3 (z6 h)) fun w6_36=>some (.ret (.tup [.agg w6_36,.bool true]),h_33)) (lett (IntKind.i64.wrap (t13+1)) fun (t31:Int)=>self t31 h_24)) (k8 h_15)
noncomputable def z10e(call:zc)(t0:AV)(t1:Int)(t2:Int)(h:AHeap)(t12:Int)(k8:AHeap→R):Nat→Int→AHeap→R:=ze6 (fun _ _=>none) (ze9 call t0 t1 t2 h t12 k8)
theorem z14f(call:zc)(t0:AV)(t1:Int)(t2:Int)(h:AHeap)(t12:Int)(k8:AHeap→R)(m:Nat):z10e call t0 t1 t2 h t12 k8 (m+1)=ze9 call t0 t1 t2 h t12 k8 (z10e call t0 t1 t2 h t12 k8 m):=rfl
noncomputable def z143(call:zc)(n:Nat)(t0:AV)(t1:Int)(t2:Int)(h:AHeap):R:=lett (newH h 26 [.int .i64 0,.int .i64 0,.int .i64 0]) fun h_2=>obind (z17d t0) fun t12=>lett (fun (h_9:AHeap)=>obind (z15 h_9 3 ([.int .i64 0,.int .i64 0,.int .i64 0]:List AV) (z6 h)) fun h_11=>obind (z16 h_11 3 (z6 h)) fun w6=>some (.ret (.tup [.agg w6,.bool false]),h_11)) fun k8=>z10e call t0 t1 t2 h t12 k8 n 0 h_2
set_option maxHeartbeats 4000000 in
set_option maxRecDepth 20000 in
theorem z348{call:zc}(hc:SaysAll Tryd.prog call){n:Nat}{t0:AV}{t1:Int}{t2:Int}{h:AHeap}{rR:ARes}{hR:AHeap}(hF:z143 call n t0 t1 t2 h=some (rR,hR)):Says Tryd.prog 30 [t0,.int .u8 t1,.int .i64 t2] h rR hR:=by
 unfold z143 at hF;refine sO Tryd.func30 fun w0 m0=>?_;refine wW [(0,t0),(1,.int .u8 t1),(2,.int .i64 t2)] ?_;refine oG fun n1=>W.r ?_;refine oN 6 hF fun h_2 hF=>?_;refine oA 7 (.bool false) ?_;refine oV [(0,t0),(1,.int .u8 t1),(2,.int .i64 t2),(6,(z6 h))] (n1 ?_);refine W.s (fun K4 n4 e4 q4 p4=>?_);refine oG fun n5=>W.r ?_;refine oA 11 t0 ?_;refine oM 12 58 97 hF fun t12 hF=>?_;refine oA 13 (.int .i64 0) ?_;refine oV [(0,t0),(1,.int .u8 t1),(2,.int .i64 t2),(6,(z6 h)),(12,.int .i64 t12),(13,.int .i64 0)] (n5 ?_);obtain⟨k8,e8,hF⟩:=z9 hF
 have J8:∀(h_9:AHeap),k8 h_9=some (rR,hR)→Go w0 m0 (Func.ntmps Tryd.f30) (K4 .normal) [(6,(z6 h))] [] h_9:=by
  intro h_9 hF;rw[e8] at hF;refine n4 ?_;refine oG fun n10=>W.r ?_;refine oA 32 (.agg ([.int .i64 0,.int .i64 0,.int .i64 0]:List AV)) ?_;refine oW 26 (.agg ([.int .i64 0,.int .i64 0,.int .i64 0]:List AV)) hF fun h_11 hF=>?_;refine oA 7 (.bool false) ?_;refine oV [(6,(z6 h)),(7,.bool false)] (n10 (oY ?_));obtain⟨w6,e13,hF⟩:=z3 hF;exact lZ hF [.cell 6 26,.tmp 7] [.agg w6,.bool false] (rY e13 (rT zd))
 refine yc (by kernel_rfl) (fun K7 n7 s7 o7 q7 p7=>?_);refine y14 (by kernel_rfl) (fun I14 K14 b14 n14 e14 q14 p14=>?_)
 have L14:∀(m:Nat) (t13:Int) (h_15:AHeap),z10e call t0 t1 t2 h t12 k8 m t13 h_15=some (rR,hR)→Go w0 m0 (Func.ntmps Tryd.f30) I14 [(0,t0),(1,.int .u8 t1),(2,.int .i64 t2),(6,(z6 h)),(12,.int .i64 t12),(13,.int .i64 t13)] [] h_15:=by
  intro m
  induction m with
  |zero=>intro t13 h_15 hF;cases hF
  |succ m ih14=>
   intro t13 h_15 hF;rw[z14f] at hF;unfold ze9 at hF;refine b14 ?_;refine oG fun n16=>W.r ?_;refine oB 14 hF fun t14 hF=>?_;refine oV [(0,t0),(1,.int .u8 t1),(2,.int .i64 t2),(6,(z6 h)),(12,.int .i64 t12),(13,.int .i64 t13),(14,.bool t14)] (n16 ?_);refine W.s (fun K18 n18 e18 q18 p18=>?_)
   cases t14 with
   |true=>
    refine oT hF fun hF=>?_;refine oZ (n18 ?_);refine oH fun n19 q19=>?_;refine yc (by kernel_rfl) (fun K20 n20 s20 o20 q20 p20=>?_);refine oG fun n21=>W.r ?_;refine oA 15 (.int .i64 t13) ?_;refine oA 8 (.int .i64 t13) ?_;refine oV [(0,t0),(1,.int .u8 t1),(2,.int .i64 t2),(6,(z6 h)),(8,.int .i64 t13),(12,.int .i64 t12),(13,.int .i64 t13)] (n21 ?_);refine oG fun n22=>W.r ?_;refine oA 17 t0 ?_;refine oA 18 (.int .i64 t13) ?_;refine oP 19 58 97 .i64 hF fun t19 hF=>?_;refine oA 20 (.int .u8 t1) ?_;refine oA 21 (.int .i64 t2) ?_;refine oC hc (some 22) hF fun r22 h_24 hF=>?_;refine oA 16 r22 ?_;refine oEi 23 hF fun t23 hF=>?_;refine oEb 24 hF fun t24 hF=>?_;refine oA 9 (.int .i64 t23) ?_;refine oA 10 (.bool t24) ?_;refine oV [(0,t0),(1,.int .u8 t1),(2,.int .i64 t2),(6,(z6 h)),(8,.int .i64 t13),(9,.int .i64 t23),(10,.bool t24),(12,.int .i64 t12),(13,.int .i64 t13)] (n22 ?_);refine oG fun n30=>W.r ?_;refine oA 25 (.bool t24) ?_;refine oV [(0,t0),(1,.int .u8 t1),(2,.int .i64 t2),(6,(z6 h)),(8,.int .i64 t13),(9,.int .i64 t23),(12,.int .i64 t12),(13,.int .i64 t13),(25,.bool t24)] (n30 ?_)
    cases t24 with
    |true=>
     refine oT hF fun hF=>?_;refine oG fun n31=>W.r ?_;refine oA 26 (.int .i64 t13) ?_;refine oA 27 (.int .i64 t23) ?_;refine oA 28 (.int .i64 t2) ?_;refine oI 29 .i64 hF fun t29 hF=>?_;refine oA 30 (.agg ([.int .i64 t13,.int .i64 t23,.int .i64 t29]:List AV)) ?_;refine oW 26 (.agg ([.int .i64 t13,.int .i64 t23,.int .i64 t29]:List AV)) hF fun h_33 hF=>?_;refine oA 7 (.bool true) ?_;refine oV [(6,(z6 h)),(7,.bool true)] (n31 (oY (q20 (q19 (q14 (q7 (q4 ?_)))))));obtain⟨w6_36,e35,hF⟩:=z3 hF;exact lZ hF [.cell 6 26,.tmp 7] [.agg w6_36,.bool true] (rY e35 (rT zd))
    |false=>
     refine oU hF fun hF=>?_;refine oZ (n20 (n19 (W.r ?_)));refine oI 31 .i64 hF fun t31 hF=>?_;refine oA 13 (.int .i64 t31) ?_;refine oV [(0,t0),(1,.int .u8 t1),(2,.int .i64 t2),(6,(z6 h)),(12,.int .i64 t12),(13,.int .i64 t31)] (n14 ?_);exact gW _ (ih14 _ _ hF)
   |false=>
    refine oU hF fun hF=>?_;refine W.exit (by kernel_rfl) ?_;refine e18 (e14 ?_);refine s7 (by kernel_rfl) ?_;exact gW _ (J8 _ hF)
 exact gW _ (L14 _ _ _ hF)
noncomputable def z97(call:zc)(t0:AV)(t1:Int)(v30:AV)(t31:Int)(k30:Int→Bool→Int→AHeap→R)(self:Int→Bool→Int→Int→AHeap→R)(t6_37:Int)(t7_38:Bool)(t8_39:Int)(t32:Int)(h_40:AHeap):R:=lett (decide (t32<t31)) fun (t33:Bool)=>ifB t33 (lett (fun (t6_47:Int) (t7_48:Bool) (t8_49:Int) (h_50:AHeap)=>lett (IntKind.i64.wrap (t32+1)) fun (t61:Int)=>self t6_47 t7_48 t8_49 t61 h_50) fun k46=>obind (z1a8 2 v30 t32) fun t34=>obind (z16 h_40 2 t34) fun t35=>lett (newH h_40 123 [.nilp,.int .i64 0]) fun h_55=>obind (z15 h_55 2 t35 (z6 h_40)) fun h_57=>obind (z7 h_57 (AV.ptr (AHeap.next h_40) 0)) fun v37=>callN (call 39 [v37,.int .u8 t1] h_57) fun _ h_61=>obind (z7 h_61 (AV.ptr (AHeap.next h_40) 0)) fun v41=>callN (call 40 [v41] h_61) fun r42 h_66=>obind (z23 r42) fun t42=>ifB t42 (k46 t6_37 t7_38 t8_39 h_66) (obind (z7 h_66 (AV.ptr (AHeap.next h_40) 0)) fun v44=>callN (call 41 [v44] h_66) fun r45 h_72=>obind (z23 r45) fun t45=>lett (fun (t49:Bool) (h_75:AHeap)=>lett (fun (t6_79:Int) (t7_80:Bool) (h_81:AHeap)=>obind (z74 t0) fun t53=>obind (z49 1 t53) fun t54=>obind (z7 h_81 t54) fun v55=>obind (z16 h_81 2 (z6 h_40)) fun t57=>obind (z1a8 2 v55 t8_39) fun t58=>obind (z15 h_81 2 t57 t58) fun h_88=>lett (IntKind.i64.wrap (t8_39+1)) fun (t60:Int)=>k46 t6_79 t7_80 t60 h_88) fun k78=>ifB t49 (obind (z7 h_75 (AV.ptr (AHeap.next h_40) 1)) fun v51=>obind (avInt .i64 v51) fun t51=>k78 t51 true h_75) (k78 t6_37 t7_38 h_75)) fun j49=>ifB t45 (lett (!t7_38) fun (t48:Bool)=>j49 t48 h_72) (j49 false h_72))) (k30 t6_37 t7_38 t8_39 h_40)
noncomputable def z82(call:zc)(t0:AV)(t1:Int)(v30:AV)(t31:Int)(k30:Int→Bool→Int→AHeap→R):Nat→Int→Bool→Int→Int→AHeap→R:=ze6 (fun _ _ _ _ _=>none) (z97 call t0 t1 v30 t31 k30)
theorem zf7(call:zc)(t0:AV)(t1:Int)(v30:AV)(t31:Int)(k30:Int→Bool→Int→AHeap→R)(m:Nat):z82 call t0 t1 v30 t31 k30 (m+1)=z97 call t0 t1 v30 t31 k30 (z82 call t0 t1 v30 t31 k30 m):=rfl
noncomputable def zbf(call:zc)(n:Nat)(t0:AV)(t1:Int)(t2:Int)(h:AHeap):R:=
 obind (z74 t0) fun t13=>
 obind (z49 1 t13) fun t14=>
 obind (z7 h t14) fun v15=>
 obind (z74 t0) fun t17=>
 obind (z49 0 t17) fun t18=>
 obind (z7 h t18) fun v19=>
 callN (call 65 [v19] h) fun r20 h_9=>
 chk (true&&(z135 Tryd.prog h_9 95 t14 v15&&true))<|
 obind (z2d3 Tryd.prog 123 [(0,r20),(1,.int .i64 t2)]) fun t22=>
 outK (z16e Tryd.prog h_9 95 1 [(0,.agg t22)]) fun v23 h_13=>
 chk (true&&(z135 Tryd.prog h_13 95 t14 v15&&true))<|
 outK (z7e Tryd.prog h_13 95 95 v15 v23) fun v24 h_16=>
 obind (z74 t0) fun t25=>
 obind (z49 1 t25) fun t26=>
 obind (z15 h_16 1 (AV.cells v24) t26) fun h_20=>
 obind (z74 t0) fun t28=>
 obind (z49 1 t28) fun t29=>
 obind (z7 h_20 t29) fun v30=>
 obind (z17d v30) fun t31=>
 lett (fun (t6:Int) (t7:Bool) (t8:Int) (h_31:AHeap)=>
  callN (call 53 [t0,.int .i64 t8] h_31) fun _ h_33=>
  some (.ret (.tup [.int .i64 t6,.bool t7]),h_33)) fun k30=>
 z82 call t0 t1 v30 t31 k30 n 0 false 0 0 h_20
set_option maxHeartbeats 4000000 in
set_option maxRecDepth 20000 in
theorem z25c{call:zc}(hc:SaysAll Tryd.prog call){n:Nat}{t0:AV}{t1:Int}{t2:Int}{h:AHeap}{rR:ARes}{hR:AHeap}(hF:zbf call n t0 t1 t2 h=some (rR,hR)):Says Tryd.prog 45 [t0,.int .u8 t1,.int .i64 t2] h rR hR:=by
 unfold zbf at hF;refine sO Tryd.func45 fun w0 m0=>?_;refine wW [(0,t0),(1,.int .u8 t1),(2,.int .i64 t2)] ?_;refine oG fun n1=>W.r ?_;refine oA 6 (.int .i64 0) ?_;refine oA 7 (.bool false) ?_;refine oV [(0,t0),(1,.int .u8 t1),(2,.int .i64 t2),(6,.int .i64 0),(7,.bool false)] (n1 ?_);refine oG fun n2=>?_;refine y21 (by kernel_rfl) (hc.ok w0) (plan:=[0,1,2,3,4,5,6,7,8,10,9,11,12,13,14,15,16]) (by kernel_rfl) (by kernel_rfl) (by kernel_rfl) ?_;refine WD.a 0 (some 11) t0 h ?_;refine WD.a 0 (some 12) t0 h ?_;obtain⟨t13,e3,hF⟩:=z3 hF;refine WD.b 0 (some 13) t13 h (z2c (h:=h) e3) ?_;obtain⟨t14,e4,hF⟩:=z3 hF;refine WD.b 0 (some 14) t14 h (z1b (P:=Tryd.prog) (h:=h) (s:=97) (f:=1) (by kernel_rfl) e4) ?_;obtain⟨v15,e5,hF⟩:=z3 hF;refine WD.b 1 (some 15) v15 h (z14 (P:=Tryd.prog) (h:=h) (t:=95) (by kernel_rfl) e5) ?_;refine WD.a 0 (some 16) t0 h ?_;obtain⟨t17,e6,hF⟩:=z3 hF;refine WD.b 0 (some 17) t17 h (z2c (h:=h) e6) ?_;obtain⟨t18,e7,hF⟩:=z3 hF;refine WD.b 0 (some 18) t18 h (z1b (P:=Tryd.prog) (h:=h) (s:=97) (f:=0) (by kernel_rfl) e7) ?_;obtain⟨v19,e8,hF⟩:=z3 hF;refine WD.b 1 (some 19) v19 h (z14 (P:=Tryd.prog) (h:=h) (t:=47) (by kernel_rfl) e8) ?_;refine WD.a 0 (some 21) (.int .i64 t2) h ?_;obtain⟨r20,h_9,e10,hF⟩:=z4d hF;obtain⟨k11,hF⟩:=z161 hF;refine WD.call (d:=(some 20)) (by kernel_rfl) (by kernel_rfl) (by kernel_rfl) e10 (k:=2) (by kernel_rfl) (fun _=>(Eq.trans (by kernel_rfl) k11)) (by decide) ?_;obtain⟨t22,e12,hF⟩:=z3 hF;refine WD.val (d:=(some 22)) (v:=.agg t22) (h':=h_9) (by kernel_rfl) (by kernel_rfl) (z1e9 (by kernel_rfl) e12) (k:=0) (by kernel_rfl) (fun e=>absurd e (by decide)) (by decide) ?_;obtain⟨v23,h_13,e14,hF⟩:=z3c hF;obtain⟨k15,hF⟩:=z161 hF;refine WD.val (d:=(some 23)) (v:=v23) (h':=h_13) (by kernel_rfl) (by kernel_rfl) (Eq.trans (by kernel_rfl) e14) (k:=2) (by kernel_rfl) (fun _=>(Eq.trans (by kernel_rfl) k15)) (by decide) ?_;obtain⟨v24,h_16,e17,hF⟩:=z3c hF;refine WD.val (d:=(some 24)) (v:=v24) (h':=h_16) (by kernel_rfl) (by kernel_rfl) (Eq.trans (by kernel_rfl) e17) (k:=2) (by kernel_rfl) (fun _=>(by kernel_rfl)) (by decide) ?_;obtain⟨t25,e18,hF⟩:=z3 hF;refine WD.b 0 (some 25) t25 h_16 (z2c (h:=h_16) e18) ?_;obtain⟨t26,e19,hF⟩:=z3 hF;refine WD.b 0 (some 26) t26 h_16 (z1b (P:=Tryd.prog) (h:=h_16) (s:=97) (f:=1) (by kernel_rfl) e19) ?_;obtain⟨h_20,e21,hF⟩:=z3 hF;refine WD.eff (h':=h_20) (by kernel_rfl) (by kernel_rfl) (Eq.trans (by kernel_rfl) (z3f (P:=Tryd.prog) (h:=h_16) (t:=95) (v:=v24) (by kernel_rfl) (by kernel_rfl) e21)) (k:=2) (by kernel_rfl) (fun _=>(by kernel_rfl)) (by decide) ?_;refine WD.nil ?_;refine gW [(0,t0),(1,.int .u8 t1),(6,.int .i64 0),(7,.bool false)] (n2 ?_);refine oG fun n22=>W.r ?_;refine oA 8 (.int .i64 0) ?_;refine oV [(0,t0),(1,.int .u8 t1),(6,.int .i64 0),(7,.bool false),(8,.int .i64 0)] (n22 ?_);refine W.s (fun K23 n23 e23 q23 p23=>?_);refine oG fun n24=>W.r ?_;refine oA 27 t0 ?_;refine oC0 28 hF fun t28 hF=>?_;refine oF 29 97 1 hF fun t29 hF=>?_;refine oL 30 95 hF fun v30 hF=>?_;refine oM 31 95 123 hF fun t31 hF=>?_;refine oA 32 (.int .i64 0) ?_;refine oV [(0,t0),(1,.int .u8 t1),(6,.int .i64 0),(7,.bool false),(8,.int .i64 0),(30,v30),(31,.int .i64 t31),(32,.int .i64 0)] (n24 ?_);obtain⟨k30,e30,hF⟩:=z9 hF
 have J30:∀(t6:Int) (t7:Bool) (t8:Int) (h_31:AHeap),k30 t6 t7 t8 h_31=some (rR,hR)→Go w0 m0 (Func.ntmps Tryd.f45) (K23 .normal) [(0,t0),(6,.int .i64 t6),(7,.bool t7),(8,.int .i64 t8)] [] h_31:=by
  intro t6 t7 t8 h_31 hF;rw[e30] at hF;refine n23 ?_;refine oG fun n32=>W.r ?_;refine oA 62 t0 ?_;refine oA 63 (.int .i64 t8) ?_;refine oC hc (some 64) hF fun r64 h_33 hF=>?_;refine oV [(6,.int .i64 t6),(7,.bool t7)] (n32 ?_);refine oG fun n35=>W.r ?_;refine oA 65 (.int .i64 t6) ?_;refine oA 66 (.bool t7) ?_;refine oA 6 (.int .i64 t6) ?_;refine oA 7 (.bool t7) ?_;refine oV [(6,.int .i64 t6),(7,.bool t7)] (n35 (oY ?_));exact lZ hF [.tmp 6,.tmp 7] [.int .i64 t6,.bool t7] (rT (rT zd))
 refine yc (by kernel_rfl) (fun K29 n29 s29 o29 q29 p29=>?_);refine y14 (by kernel_rfl) (fun I36 K36 b36 n36 e36 q36 p36=>?_)
 have L36:∀(m:Nat) (t6_37:Int) (t7_38:Bool) (t8_39:Int) (t32:Int) (h_40:AHeap),z82 call t0 t1 v30 t31 k30 m t6_37 t7_38 t8_39 t32 h_40=some (rR,hR)→Go w0 m0 (Func.ntmps Tryd.f45) I36 [(0,t0),(1,.int .u8 t1),(6,.int .i64 t6_37),(7,.bool t7_38),(8,.int .i64 t8_39),(30,v30),(31,.int .i64 t31),(32,.int .i64 t32)] [] h_40:=by
  intro m
  induction m with
  |zero=>intro t6_37 t7_38 t8_39 t32 h_40 hF;cases hF
  |succ m ih36=>
   intro t6_37 t7_38 t8_39 t32 h_40 hF;rw[zf7] at hF;unfold z97 at hF;refine b36 ?_;refine oG fun n41=>W.r ?_;refine oB 33 hF fun t33 hF=>?_;refine oV [(0,t0),(1,.int .u8 t1),(6,.int .i64 t6_37),(7,.bool t7_38),(8,.int .i64 t8_39),(30,v30),(31,.int .i64 t31),(32,.int .i64 t32),(33,.bool t33)] (n41 ?_);refine W.s (fun K43 n43 e43 q43 p43=>?_)
   cases t33 with
   |true=>
    refine oT hF fun hF=>?_;refine oZ (n43 ?_);refine W.s (fun K44 n44 e44 q44 p44=>?_);obtain⟨k46,e46,hF⟩:=z9 hF
    have J46:∀(t6_47:Int) (t7_48:Bool) (t8_49:Int) (h_50:AHeap),k46 t6_47 t7_48 t8_49 h_50=some (rR,hR)→Go w0 m0 (Func.ntmps Tryd.f45) (K44 .normal) [(0,t0),(1,.int .u8 t1),(6,.int .i64 t6_47),(7,.bool t7_48),(8,.int .i64 t8_49),(30,v30),(31,.int .i64 t31),(32,.int .i64 t32)] [] h_50:=by
     intro t6_47 t7_48 t8_49 h_50 hF;rw[e46] at hF;refine n44 (W.r ?_);refine oI 61 .i64 hF fun t61 hF=>?_;refine oA 32 (.int .i64 t61) ?_;refine oV [(0,t0),(1,.int .u8 t1),(6,.int .i64 t6_47),(7,.bool t7_48),(8,.int .i64 t8_49),(30,v30),(31,.int .i64 t31),(32,.int .i64 t61)] (n36 ?_);exact gW _ (ih36 _ _ _ _ _ hF)
    refine yc (by kernel_rfl) (fun K45 n45 s45 o45 q45 p45=>?_);refine oG fun n52=>W.r ?_;refine oP 34 95 123 .i64 hF fun t34 hF=>?_;refine oR 35 123 hF fun t35 hF=>?_;refine oN 10 hF fun h_55 hF=>?_;refine oW 123 (.agg t35) hF fun h_57 hF=>?_;refine oV [(0,t0),(1,.int .u8 t1),(6,.int .i64 t6_37),(7,.bool t7_38),(8,.int .i64 t8_39),(10,(z6 h_40)),(30,v30),(31,.int .i64 t31),(32,.int .i64 t32)] (n52 ?_);refine oG fun n59=>W.r ?_;refine oA 36 (AV.ptr (AHeap.next h_40) 0) ?_;refine oL 37 120 hF fun v37 hF=>?_;refine oA 38 (.int .u8 t1) ?_;refine oC hc (some 39) hF fun r39 h_61 hF=>?_;refine oV [(0,t0),(1,.int .u8 t1),(6,.int .i64 t6_37),(7,.bool t7_38),(8,.int .i64 t8_39),(10,(z6 h_40)),(30,v30),(31,.int .i64 t31),(32,.int .i64 t32)] (n59 ?_);refine W.s (fun K63 n63 e63 q63 p63=>?_);refine oG fun n64=>W.r ?_;refine oA 40 (AV.ptr (AHeap.next h_40) 0) ?_;refine oL 41 120 hF fun v41 hF=>?_;refine oCb hc 42 hF fun t42 h_66 hF=>?_;refine oV [(0,t0),(1,.int .u8 t1),(6,.int .i64 t6_37),(7,.bool t7_38),(8,.int .i64 t8_39),(10,(z6 h_40)),(30,v30),(31,.int .i64 t31),(32,.int .i64 t32),(42,.bool t42)] (n64 ?_)
    cases t42 with
    |true=>
     refine oT hF fun hF=>?_;refine W.exit (by kernel_rfl) ?_;refine e63 ?_;refine s45 (by kernel_rfl) ?_;exact gW _ (J46 _ _ _ _ hF)
    |false=>
     refine oU hF fun hF=>?_;refine oZ (n63 ?_);refine W.s (fun K69 n69 e69 q69 p69=>?_);refine W.s (fun K70 n70 e70 q70 p70=>?_);refine W.r ?_;refine oA 43 (AV.ptr (AHeap.next h_40) 0) ?_;refine oL 44 120 hF fun v44 hF=>?_;refine oCb hc 45 hF fun t45 h_72 hF=>?_;refine oA 46 (.bool t45) ?_;obtain⟨j49,e76,hF⟩:=z9 hF
     have J77:∀(t49:Bool) (h_75:AHeap),j49 t49 h_75=some (rR,hR)→WL Tryd.prog w0 m0 (Func.ntmps Tryd.f45) (Code.ops (y4 (y4 (y3 (y3 (y3 (y4 (y4 (y3 (y3 (y4 (y4 (y3 (y4 (y3 (y3 (y3 (z55 Tryd.f45)))))))))))))))))) 7 K70 [(0,t0),(1,.int .u8 t1),(6,.int .i64 t6_37),(7,.bool t7_38),(8,.int .i64 t8_39),(10,(z6 h_40)),(30,v30),(31,.int .i64 t31),(32,.int .i64 t32),(49,.bool t49)] [] h_75:=by
      intro t49 h_75 hF;rw[e76] at hF;refine oV [(0,t0),(1,.int .u8 t1),(6,.int .i64 t6_37),(7,.bool t7_38),(8,.int .i64 t8_39),(10,(z6 h_40)),(30,v30),(31,.int .i64 t31),(32,.int .i64 t32),(49,.bool t49)] (n70 ?_);obtain⟨k78,e78,hF⟩:=z9 hF
      have J78:∀(t6_79:Int) (t7_80:Bool) (h_81:AHeap),k78 t6_79 t7_80 h_81=some (rR,hR)→Go w0 m0 (Func.ntmps Tryd.f45) (K69 .normal) [(0,t0),(1,.int .u8 t1),(6,.int .i64 t6_79),(7,.bool t7_80),(8,.int .i64 t8_39),(10,(z6 h_40)),(30,v30),(31,.int .i64 t31),(32,.int .i64 t32)] [] h_81:=by
       intro t6_79 t7_80 h_81 hF;rw[e78] at hF;refine n69 ?_;refine oG fun n82=>?_;refine y21 (by kernel_rfl) (hc.ok w0) (plan:=[0,1,2,3,4,5,6,7]) (by kernel_rfl) (by kernel_rfl) (by kernel_rfl) ?_;refine WD.a 0 (some 52) t0 h_81 ?_;obtain⟨t53,e83,hF⟩:=z3 hF;refine WD.b 0 (some 53) t53 h_81 (z2c (h:=h_81) e83) ?_;obtain⟨t54,e84,hF⟩:=z3 hF;refine WD.b 0 (some 54) t54 h_81 (z1b (P:=Tryd.prog) (h:=h_81) (s:=97) (f:=1) (by kernel_rfl) e84) ?_;obtain⟨v55,e85,hF⟩:=z3 hF;refine WD.b 1 (some 55) v55 h_81 (z14 (P:=Tryd.prog) (h:=h_81) (t:=95) (by kernel_rfl) e85) ?_;refine WD.a 0 (some 56) (.int .i64 t8_39) h_81 ?_;obtain⟨t57,e86,hF⟩:=z3 hF;refine WD.b 1 (some 57) (.agg t57) h_81 (zb1 (P:=Tryd.prog) (h:=h_81) (t:=123) (by kernel_rfl) (by kernel_rfl) e86) ?_;obtain⟨t58,e87,hF⟩:=z3 hF;refine WD.b 0 (some 58) t58 h_81 (z178 (P:=Tryd.prog) (h:=h_81) (t:=95) (e':=123) (k:=.i64) (by kernel_rfl) (by kernel_rfl) (by kernel_rfl) e87) ?_;obtain⟨h_88,e89,hF⟩:=z3 hF;refine WD.eff (h':=h_88) (by kernel_rfl) (by kernel_rfl) (Eq.trans (by kernel_rfl) (z3f (P:=Tryd.prog) (h:=h_81) (t:=123) (v:=(.agg t57)) (by kernel_rfl) (by kernel_rfl) e89)) (k:=2) (by kernel_rfl) (fun _=>(by kernel_rfl)) (by decide) ?_;refine WD.nil ?_;refine gW [(0,t0),(1,.int .u8 t1),(6,.int .i64 t6_79),(7,.bool t7_80),(8,.int .i64 t8_39),(30,v30),(31,.int .i64 t31),(32,.int .i64 t32)] (n82 (W.r ?_));refine oA 59 (.int .i64 t8_39) ?_;refine oI 60 .i64 hF fun t60 hF=>?_;refine oA 8 (.int .i64 t60) ?_;refine oV [(0,t0),(1,.int .u8 t1),(6,.int .i64 t6_79),(7,.bool t7_80),(8,.int .i64 t60),(30,v30),(31,.int .i64 t31),(32,.int .i64 t32)] (n45 ?_);exact gW _ (J46 _ _ _ _ hF)
      cases t49 with
      |true=>
       refine oT hF fun hF=>?_;refine W.r ?_;refine oA 50 (AV.ptr (AHeap.next h_40) 1) ?_;refine oLi 51 3 hF fun t51 hF=>?_;refine oA 6 (.int .i64 t51) ?_;refine oA 7 (.bool true) ?_;refine oV [(0,t0),(1,.int .u8 t1),(6,.int .i64 t51),(7,.bool true),(8,.int .i64 t8_39),(10,(z6 h_40)),(30,v30),(31,.int .i64 t31),(32,.int .i64 t32)] ?_;exact gW _ (J78 _ _ _ hF)
      |false=>
       refine oU hF fun hF=>?_;refine oZ ?_;exact gW _ (J78 _ _ _ hF)
     cases t45 with
     |true=>
      replace hF:=zc3 hF
      refine oA 47 (.bool t7_38) ?_;refine oB 48 hF fun t48 hF=>?_;refine oA 49 (.bool t48) ?_;exact lW _ (J77 _ _ hF)
     |false=>
      replace hF:=zc4 hF
      refine WL.o (some 47) ?_;refine WL.o (some 48) ?_;refine oA 49 (.bool false) ?_;exact lW _ (J77 _ _ hF)
   |false=>
    refine oU hF fun hF=>?_;refine W.exit (by kernel_rfl) ?_;refine e43 (e36 ?_);refine s29 (by kernel_rfl) ?_;exact gW _ (J30 _ _ _ _ hF)
 exact gW _ (L36 _ _ _ _ _ _ hF)
noncomputable def zc0(_:zc)(_:Nat)(t0:AV)(t1:Int)(h:AHeap):R:=obind (z74 t0) fun t5=>obind (z49 1 t5) fun t6=>obind (z7 h t6) fun v7=>outK (zb4 Tryd.prog h 95 v7 (some (.int .i64 t1)) none) fun v9 h_5=>outK (z1b5 Tryd.prog h_5 95 v9) fun _ h_7=>obind (z74 t0) fun t12=>obind (z49 1 t12) fun t13=>obind (z7 h_7 t13) fun v14=>outK (zb4 Tryd.prog h_7 95 v14 none (some (.int .i64 t1))) fun v16 h_12=>obind (z74 t0) fun t17=>obind (z49 1 t17) fun t18=>obind (z15 h_12 1 (AV.cells v16) t18) fun h_16=>some (.ret (.tup []),h_16)
set_option maxHeartbeats 4000000 in
set_option maxRecDepth 20000 in
theorem z25d{call:zc}(_:SaysAll Tryd.prog call){n:Nat}{t0:AV}{t1:Int}{h:AHeap}{rR:ARes}{hR:AHeap}(hF:zc0 call n t0 t1 h=some (rR,hR)):Says Tryd.prog 53 [t0,.int .i64 t1] h rR hR:=by
 unfold zc0 at hF;refine sO Tryd.func53 fun w0 m0=>?_;refine wW [(0,t0),(1,.int .i64 t1)] ?_;refine oG fun n1=>W.r ?_;refine oA 4 t0 ?_;refine oC0 5 hF fun t5 hF=>?_;refine oF 6 97 1 hF fun t6 hF=>?_;refine oL 7 95 hF fun v7 hF=>?_;refine oA 8 (.int .i64 t1) ?_;refine oK 9 hF fun v9 h_5 hF=>?_;obtain⟨v,h_7,e8,hF⟩:=z3c hF;refine WL.b none v h_7 e8 ?_;refine oV [(0,t0),(1,.int .i64 t1)] (n1 (W.r ?_));refine oA 10 t0 ?_;refine oA 11 t0 ?_;refine oC0 12 hF fun t12 hF=>?_;refine oF 13 97 1 hF fun t13 hF=>?_;refine oL 14 95 hF fun v14 hF=>?_;refine oA 15 (.int .i64 t1) ?_;refine oK 16 hF fun v16 h_12 hF=>?_;refine oC0 17 hF fun t17 hF=>?_;refine oF 18 97 1 hF fun t18 hF=>?_;refine oW 95 v16 hF fun h_16 hF=>?_;refine oV [] ?_;exact lY hF [] [] zd
noncomputable def zad(call:zc)(_:Nat)(t0:List AV)(h:AHeap):R:=outK (z118 h 51 (some (.agg t0))) fun v1 h_2=>obind (z16 h_2 2 v1) fun t6=>callN (call 36 [.agg t6] h_2) fun r7 h_6=>obind (z153 0 r7) fun v8=>obind (z65 v8) fun t8=>obind (z153 1 r7) fun v9=>obind (z65 v9) fun t9=>lett (newH h_6 68 [.int .i64 0,.int .u64 0,.int .u64 0,.int .u64 0,.int .u64 0,.nsl]) fun h_12=>lett (newH h_12 70 [.int .i64 0,.int .i64 0]) fun h_14=>obind (z15 h_14 6 t8 (z6 h_6)) fun h_16=>obind (z15 h_16 2 t9 (z6 h_12)) fun h_18=>obind (z7 h_18 (AV.ptr (AHeap.next h_12) 0)) fun v11=>obind (avInt .i64 v11) fun t11=>lett ((t11:Int) == 0) fun (t12:Bool)=>lett (fun (t16:Bool) (h_24:AHeap)=>some (.ret (.bool t16),h_24)) fun j16=>ifB t12 (obind (z16 h_18 6 (z6 h_6)) fun t14=>callN (call 64 [.agg t14] h_18) fun r15 h_28=>obind (z23 r15) fun t15=>j16 t15 h_28) (j16 false h_18)
set_option maxHeartbeats 4000000 in
set_option maxRecDepth 20000 in
theorem z284{call:zc}(hc:SaysAll Tryd.prog call){n:Nat}{t0:List AV}{h:AHeap}{rR:ARes}{hR:AHeap}(hF:zad call n t0 h=some (rR,hR)):Says Tryd.prog 44 [.agg t0] h rR hR:=by
 unfold zad at hF;refine sO Tryd.func44 fun w0 m0=>?_;refine wW [(0,.agg t0)] ?_;refine oG fun n1=>W.r ?_;refine oK 1 hF fun v1 h_2 hF=>?_;refine oA 2 (.bool false) ?_;refine oV [(1,v1)] (n1 ?_);refine oG fun n4=>W.r ?_;refine oR 6 51 hF fun t6 hF=>?_;refine oC hc (some 7) hF fun r7 h_6 hF=>?_;refine oA 5 r7 ?_;refine oEa 8 hF fun t8 hF=>?_;refine oEa 9 hF fun t9 hF=>?_;refine oN 3 hF fun h_12 hF=>?_;refine oN 4 hF fun h_14 hF=>?_;refine oW 68 (.agg t8) hF fun h_16 hF=>?_;refine oW 70 (.agg t9) hF fun h_18 hF=>?_;refine oV [(3,(z6 h_6)),(4,(z6 h_12))] (n4 ?_);refine W.s (fun K20 n20 e20 q20 p20=>?_);refine W.r ?_;refine oA 10 (AV.ptr (AHeap.next h_12) 0) ?_;refine oLi 11 32 hF fun t11 hF=>?_;refine oB 12 hF fun t12 hF=>?_;refine oA 13 (.bool t12) ?_;obtain⟨j16,e25,hF⟩:=z9 hF
 have J26:∀(t16:Bool) (h_24:AHeap),j16 t16 h_24=some (rR,hR)→WL Tryd.prog w0 m0 (Func.ntmps Tryd.f44) (Code.ops (y4 (y3 (y3 (z55 Tryd.f44))))) 7 K20 [(16,.bool t16)] [] h_24:=by
  intro t16 h_24 hF;rw[e25] at hF;refine oA 2 (.bool t16) ?_;refine oV [(2,.bool t16)] (n20 (oY ?_));exact lZ hF [.tmp 2] [.bool t16] (rT zd)
 cases t12 with
 |true=>
  replace hF:=zc3 hF
  refine oR 14 68 hF fun t14 hF=>?_;refine oCb hc 15 hF fun t15 h_28 hF=>?_;refine oA 16 (.bool t15) ?_;exact lW _ (J26 _ _ hF)
 |false=>
  replace hF:=zc4 hF
  refine WL.o (some 14) ?_;refine WL.o (some 15) ?_;refine oA 16 (.bool false) ?_;exact lW _ (J26 _ _ hF)
noncomputable def zd9(call:zc)(v30:AV)(t31:Int)(k62:AHeap→R)(self:Int→AHeap→R)(t32:Int)(h_65:AHeap):R:=lett (decide (t32<t31)) fun (t33:Bool)=>ifB t33 (obind (z1a8 6 v30 t32) fun t34=>obind (z16 h_65 6 t34) fun t35=>lett (newH h_65 68 [.int .i64 0,.int .u64 0,.int .u64 0,.int .u64 0,.int .u64 0,.nsl]) fun h_74=>obind (z15 h_74 6 t35 (z6 h_65)) fun h_76=>obind (z16 h_76 6 (z6 h_65)) fun t36=>callN (call 64 [.agg t36] h_76) fun r37 h_80=>obind (z23 r37) fun t37=>ifB t37 (some (.ret (.bool true),h_80)) (lett (IntKind.i64.wrap (t32+1)) fun (t38:Int)=>self t38 h_80)) (k62 h_65)
noncomputable def zb5(call:zc)(v30:AV)(t31:Int)(k62:AHeap→R):Nat→Int→AHeap→R:=ze6 (fun _ _=>none) (zd9 call v30 t31 k62)
theorem z158(call:zc)(v30:AV)(t31:Int)(k62:AHeap→R)(m:Nat):zb5 call v30 t31 k62 (m+1)=zd9 call v30 t31 k62 (zb5 call v30 t31 k62 m):=rfl
noncomputable def zda(call:zc)(v17:AV)(t18:Int)(k27:AHeap→R)(self:Int→AHeap→R)(t19:Int)(h_31:AHeap):R:=lett (decide (t19<t18)) fun (t20:Bool)=>ifB t20 (obind (z1a8 6 v17 t19) fun t21=>obind (z16 h_31 6 t21) fun t22=>lett (newH h_31 68 [.int .i64 0,.int .u64 0,.int .u64 0,.int .u64 0,.int .u64 0,.nsl]) fun h_40=>obind (z15 h_40 6 t22 (z6 h_31)) fun h_42=>obind (z16 h_42 6 (z6 h_31)) fun t23=>callN (call 64 [.agg t23] h_42) fun r24 h_46=>obind (z23 r24) fun t24=>lett (!t24) fun (t25:Bool)=>ifB t25 (some (.ret (.bool false),h_46)) (lett (IntKind.i64.wrap (t19+1)) fun (t26:Int)=>self t26 h_46)) (k27 h_31)
noncomputable def z90(call:zc)(v17:AV)(t18:Int)(k27:AHeap→R):Nat→Int→AHeap→R:=ze6 (fun _ _=>none) (zda call v17 t18 k27)
theorem z159(call:zc)(v17:AV)(t18:Int)(k27:AHeap→R)(m:Nat):z90 call v17 t18 k27 (m+1)=zda call v17 t18 k27 (z90 call v17 t18 k27 m):=rfl
noncomputable def zac(call:zc)(n:Nat)(t0:List AV)(h:AHeap):R:=outK (z118 h 68 (some (.agg t0))) fun v1 h_2=>obind (z49 0 v1) fun t7=>obind (z7 h_2 t7) fun v8=>obind (avInt .i64 v8) fun t8=>lett ((t8:Int) == 1) fun (t10:Bool)=>lett (fun (t9:Bool) (h_14:AHeap)=>ifB t9 (some (.ret (.bool true),h_14)) (lett ((t8:Int) == 6) fun (t14:Bool)=>lett (fun (t13:Bool) (h_20:AHeap)=>ifB t13 (obind (z49 5 v1) fun t16=>obind (z7 h_20 t16) fun v17=>obind (z17d v17) fun t18=>lett (fun (h_28:AHeap)=>some (.ret (.bool true),h_28)) fun k27=>z90 call v17 t18 k27 n 0 h_20) (lett ((t8:Int) == 4) fun (t28:Bool)=>lett (fun (h_55:AHeap)=>some (.ret (.bool false),h_55)) fun k54=>ifB t28 (obind (z49 5 v1) fun t29=>obind (z7 h_20 t29) fun v30=>obind (z17d v30) fun t31=>lett (fun (h_63:AHeap)=>k54 h_63) fun k62=>zb5 call v30 t31 k62 n 0 h_20) (k54 h_20))) fun k19=>ifB t14 (k19 true h_14) (lett ((t8:Int) == 3) fun (t15:Bool)=>k19 t15 h_14))) fun k13=>ifB t10 (k13 true h_2) (lett ((t8:Int) == 5) fun (t11:Bool)=>lett (fun (t9_89:Bool) (h_90:AHeap)=>k13 t9_89 h_90) fun k88=>ifB t11 (k88 true h_2) (lett ((t8:Int) == 7) fun (t12:Bool)=>k88 t12 h_2))
set_option maxHeartbeats 4000000 in
set_option maxRecDepth 20000 in
theorem z283{call:zc}(hc:SaysAll Tryd.prog call){n:Nat}{t0:List AV}{h:AHeap}{rR:ARes}{hR:AHeap}(hF:zac call n t0 h=some (rR,hR)):Says Tryd.prog 64 [.agg t0] h rR hR:=by
 unfold zac at hF;refine sO Tryd.func64 fun w0 m0=>?_;refine wW [(0,.agg t0)] ?_;refine oG fun n1=>W.r ?_;refine oK 1 hF fun v1 h_2 hF=>?_;refine oA 2 (.bool false) ?_;refine oV [(1,v1)] (n1 ?_);refine oH fun n4 q4=>?_;refine oG fun n5=>W.r ?_;refine oF 7 68 0 hF fun t7 hF=>?_;refine oLi 8 3 hF fun t8 hF=>?_;refine oV [(1,v1),(8,.int .i64 t8)] (n5 ?_);refine yc (by kernel_rfl) (fun K9 n9 s9 o9 q9 p9=>?_);refine W.s (fun K10 n10 e10 q10 p10=>?_);refine oG fun n11=>W.r ?_;refine oB 10 hF fun t10 hF=>?_;refine oA 9 (.bool t10) ?_;refine oV [(1,v1),(8,.int .i64 t8),(9,.bool t10)] (n11 ?_);obtain⟨k13,e13,hF⟩:=z9 hF
 have J13:∀(t9:Bool) (h_14:AHeap),k13 t9 h_14=some (rR,hR)→Go w0 m0 (Func.ntmps Tryd.f64) (K10 .normal) [(1,v1),(8,.int .i64 t8),(9,.bool t9)] [] h_14:=by
  intro t9 h_14 hF;rw[e13] at hF;refine n10 ?_
  cases t9 with
  |true=>
   refine oT hF fun hF=>?_;refine oG fun n15=>W.r ?_;refine oA 2 (.bool true) ?_;refine oV [(2,.bool true)] (n15 (oY (q9 (q4 ?_))));exact lZ hF [.tmp 2] [.bool true] (rT zd)
  |false=>
   refine oU hF fun hF=>?_;refine W.s (fun K16 n16 e16 q16 p16=>?_);refine oG fun n17=>W.r ?_;refine oB 14 hF fun t14 hF=>?_;refine oA 13 (.bool t14) ?_;refine oV [(1,v1),(8,.int .i64 t8),(13,.bool t14)] (n17 ?_);obtain⟨k19,e19,hF⟩:=z9 hF
   have J19:∀(t13:Bool) (h_20:AHeap),k19 t13 h_20=some (rR,hR)→Go w0 m0 (Func.ntmps Tryd.f64) (K16 .normal) [(1,v1),(8,.int .i64 t8),(13,.bool t13)] [] h_20:=by
    intro t13 h_20 hF;rw[e19] at hF;refine n16 ?_
    cases t13 with
    |true=>
     refine oT hF fun hF=>?_;refine W.s (fun K21 n21 e21 q21 p21=>?_);refine oG fun n22=>W.r ?_;refine oF 16 68 2 hF fun t16 hF=>?_;refine oL 17 66 hF fun v17 hF=>?_;refine oM 18 66 68 hF fun t18 hF=>?_;refine oA 19 (.int .i64 0) ?_;refine oV [(17,v17),(18,.int .i64 t18),(19,.int .i64 0)] (n22 ?_);obtain⟨k27,e27,hF⟩:=z9 hF
     have J27:∀(h_28:AHeap),k27 h_28=some (rR,hR)→Go w0 m0 (Func.ntmps Tryd.f64) (K21 .normal) [] [] h_28:=by
      intro h_28 hF;rw[e27] at hF;refine n21 ?_;refine oG fun n29=>W.r ?_;refine oA 2 (.bool true) ?_;refine oV [(2,.bool true)] (n29 (oY (q9 (q4 ?_))));exact lZ hF [.tmp 2] [.bool true] (rT zd)
     refine yc (by kernel_rfl) (fun K26 n26 s26 o26 q26 p26=>?_);refine y14 (by kernel_rfl) (fun I30 K30 b30 n30 e30 q30 p30=>?_)
     have L30:∀(m:Nat) (t19:Int) (h_31:AHeap),z90 call v17 t18 k27 m t19 h_31=some (rR,hR)→Go w0 m0 (Func.ntmps Tryd.f64) I30 [(17,v17),(18,.int .i64 t18),(19,.int .i64 t19)] [] h_31:=by
      intro m
      induction m with
      |zero=>intro t19 h_31 hF;cases hF
      |succ m ih30=>
       intro t19 h_31 hF;rw[z159] at hF;unfold zda at hF;refine b30 ?_;refine oG fun n32=>W.r ?_;refine oB 20 hF fun t20 hF=>?_;refine oV [(17,v17),(18,.int .i64 t18),(19,.int .i64 t19),(20,.bool t20)] (n32 ?_);refine W.s (fun K34 n34 e34 q34 p34=>?_)
       cases t20 with
       |true=>
        refine oT hF fun hF=>?_;refine oZ (n34 ?_);refine oH fun n35 q35=>?_;refine yc (by kernel_rfl) (fun K36 n36 s36 o36 q36 p36=>?_);refine oG fun n37=>W.r ?_;refine oP 21 66 68 .i64 hF fun t21 hF=>?_;refine oR 22 68 hF fun t22 hF=>?_;refine oN 4 hF fun h_40 hF=>?_;refine oW 68 (.agg t22) hF fun h_42 hF=>?_;refine oV [(4,(z6 h_31)),(17,v17),(18,.int .i64 t18),(19,.int .i64 t19)] (n37 ?_);refine oG fun n44=>W.r ?_;refine oR 23 68 hF fun t23 hF=>?_;refine oCb hc 24 hF fun t24 h_46 hF=>?_;refine oB 25 hF fun t25 hF=>?_;refine oV [(17,v17),(18,.int .i64 t18),(19,.int .i64 t19),(25,.bool t25)] (n44 ?_)
        cases t25 with
        |true=>
         refine oT hF fun hF=>?_;refine oG fun n50=>W.r ?_;refine oA 2 (.bool false) ?_;refine oV [(2,.bool false)] (n50 (oY (q36 (q35 (q30 (q26 (q21 (q9 (q4 ?_)))))))));exact lZ hF [.tmp 2] [.bool false] (rT zd)
        |false=>
         refine oU hF fun hF=>?_;refine oZ (n36 (n35 (W.r ?_)));refine oI 26 .i64 hF fun t26 hF=>?_;refine oA 19 (.int .i64 t26) ?_;refine oV [(17,v17),(18,.int .i64 t18),(19,.int .i64 t26)] (n30 ?_);exact gW _ (ih30 _ _ hF)
       |false=>
        refine oU hF fun hF=>?_;refine W.exit (by kernel_rfl) ?_;refine e34 (e30 ?_);refine s26 (by kernel_rfl) ?_;exact gW _ (J27 _ hF)
     exact gW _ (L30 _ _ _ hF)
    |false=>
     refine oU hF fun hF=>?_;refine oG fun n52=>W.r ?_;refine oB 28 hF fun t28 hF=>?_;refine oA 27 (.bool t28) ?_;refine oV [(1,v1),(27,.bool t28)] (n52 ?_);obtain⟨k54,e54,hF⟩:=z9 hF
     have J54:∀(h_55:AHeap),k54 h_55=some (rR,hR)→Go w0 m0 (Func.ntmps Tryd.f64) (K9 .normal) [] [] h_55:=by
      intro h_55 hF;rw[e54] at hF;refine n9 (n4 ?_);refine oG fun n56=>W.r ?_;refine oA 2 (.bool false) ?_;refine oV [(2,.bool false)] (n56 (oY ?_));exact lZ hF [.tmp 2] [.bool false] (rT zd)
     cases t28 with
     |true=>
      refine oT hF fun hF=>?_;refine oG fun n57=>W.r ?_;refine oF 29 68 2 hF fun t29 hF=>?_;refine oL 30 66 hF fun v30 hF=>?_;refine oM 31 66 68 hF fun t31 hF=>?_;refine oA 32 (.int .i64 0) ?_;refine oV [(30,v30),(31,.int .i64 t31),(32,.int .i64 0)] (n57 ?_);obtain⟨k62,e62,hF⟩:=z9 hF
      have J62:∀(h_63:AHeap),k62 h_63=some (rR,hR)→Go w0 m0 (Func.ntmps Tryd.f64) (K9 .normal) [] [] h_63:=by
       intro h_63 hF;rw[e62] at hF;exact gW _ (J54 _ hF)
      refine yc (by kernel_rfl) (fun K61 n61 s61 o61 q61 p61=>?_);refine y14 (by kernel_rfl) (fun I64 K64 b64 n64 e64 q64 p64=>?_)
      have L64:∀(m:Nat) (t32:Int) (h_65:AHeap),zb5 call v30 t31 k62 m t32 h_65=some (rR,hR)→Go w0 m0 (Func.ntmps Tryd.f64) I64 [(30,v30),(31,.int .i64 t31),(32,.int .i64 t32)] [] h_65:=by
       intro m
       induction m with
       |zero=>intro t32 h_65 hF;cases hF
       |succ m ih64=>
        intro t32 h_65 hF;rw[z158] at hF;unfold zd9 at hF;refine b64 ?_;refine oG fun n66=>W.r ?_;refine oB 33 hF fun t33 hF=>?_;refine oV [(30,v30),(31,.int .i64 t31),(32,.int .i64 t32),(33,.bool t33)] (n66 ?_);refine W.s (fun K68 n68 e68 q68 p68=>?_)
        cases t33 with
        |true=>
         refine oT hF fun hF=>?_;refine oZ (n68 ?_);refine oH fun n69 q69=>?_;refine yc (by kernel_rfl) (fun K70 n70 s70 o70 q70 p70=>?_);refine oG fun n71=>W.r ?_;refine oP 34 66 68 .i64 hF fun t34 hF=>?_;refine oR 35 68 hF fun t35 hF=>?_;refine oN 6 hF fun h_74 hF=>?_;refine oW 68 (.agg t35) hF fun h_76 hF=>?_;refine oV [(6,(z6 h_65)),(30,v30),(31,.int .i64 t31),(32,.int .i64 t32)] (n71 ?_);refine oG fun n78=>W.r ?_;refine oR 36 68 hF fun t36 hF=>?_;refine oCb hc 37 hF fun t37 h_80 hF=>?_;refine oV [(30,v30),(31,.int .i64 t31),(32,.int .i64 t32),(37,.bool t37)] (n78 ?_)
         cases t37 with
         |true=>
          refine oT hF fun hF=>?_;refine oG fun n83=>W.r ?_;refine oA 2 (.bool true) ?_;refine oV [(2,.bool true)] (n83 (oY (q70 (q69 (q64 (q61 (q9 (q4 ?_))))))));exact lZ hF [.tmp 2] [.bool true] (rT zd)
         |false=>
          refine oU hF fun hF=>?_;refine oZ (n70 (n69 (W.r ?_)));refine oI 38 .i64 hF fun t38 hF=>?_;refine oA 32 (.int .i64 t38) ?_;refine oV [(30,v30),(31,.int .i64 t31),(32,.int .i64 t38)] (n64 ?_);exact gW _ (ih64 _ _ hF)
        |false=>
         refine oU hF fun hF=>?_;refine W.exit (by kernel_rfl) ?_;refine e68 (e64 ?_);refine s61 (by kernel_rfl) ?_;exact gW _ (J62 _ hF)
      exact gW _ (L64 _ _ _ hF)
     |false=>
      refine oU hF fun hF=>?_;refine oZ ?_;exact gW _ (J54 _ hF)
   cases t14 with
   |true=>
    refine oT hF fun hF=>?_;refine oZ ?_;exact gW _ (J19 _ _ hF)
   |false=>
    refine oU hF fun hF=>?_;refine W.r ?_;refine oB 15 hF fun t15 hF=>?_;refine oA 13 (.bool t15) ?_;refine oV [(1,v1),(8,.int .i64 t8),(13,.bool t15)] ?_;exact gW _ (J19 _ _ hF)
 cases t10 with
 |true=>
  refine oT hF fun hF=>?_;refine oZ ?_;exact gW _ (J13 _ _ hF)
 |false=>
  refine oU hF fun hF=>?_;refine oG fun n86=>W.r ?_;refine oB 11 hF fun t11 hF=>?_;refine oA 9 (.bool t11) ?_;refine oV [(1,v1),(8,.int .i64 t8),(9,.bool t11)] (n86 ?_);obtain⟨k88,e88,hF⟩:=z9 hF
  have J88:∀(t9_89:Bool) (h_90:AHeap),k88 t9_89 h_90=some (rR,hR)→Go w0 m0 (Func.ntmps Tryd.f64) (K10 .normal) [(1,v1),(8,.int .i64 t8),(9,.bool t9_89)] [] h_90:=by
   intro t9_89 h_90 hF;rw[e88] at hF;exact gW _ (J13 _ _ hF)
  cases t11 with
  |true=>
   refine oT hF fun hF=>?_;refine oZ ?_;exact gW _ (J88 _ _ hF)
  |false=>
   refine oU hF fun hF=>?_;refine W.r ?_;refine oB 12 hF fun t12 hF=>?_;refine oA 9 (.bool t12) ?_;refine oV [(1,v1),(8,.int .i64 t8),(9,.bool t12)] ?_;exact gW _ (J88 _ _ hF)
noncomputable def z177(call:zc)(_:Nat)(t0:AV)(h:AHeap):R:=callN (call 29 [t0] h) fun r8 h_3=>obind (z153 0 r8) fun v9=>obind (z153 1 r8) fun v10=>obind (avInt .i64 v10) fun t10=>lett ((t10:Int) != 0) fun (t12:Bool)=>ifB t12 (some (.ret (.tup [AV.nilp,.int .i64 t10]),h_3)) (obind (z2d3 Tryd.prog 78 [(0,v9)]) fun t15=>outK (z118 h_3 78 (some (.agg t15))) fun v16 h_14=>some (.ret (.tup [v16,.int .i64 0]),h_14))
set_option maxHeartbeats 4000000 in
set_option maxRecDepth 20000 in
theorem z391{call:zc}(hc:SaysAll Tryd.prog call){n:Nat}{t0:AV}{h:AHeap}{rR:ARes}{hR:AHeap}(hF:z177 call n t0 h=some (rR,hR)):Says Tryd.prog 16 [t0] h rR hR:=by
 unfold z177 at hF;refine sO Tryd.func16 fun w0 m0=>?_;refine wW [(0,t0)] ?_;refine oG fun n1=>W.r ?_;refine oA 2 AV.nilp ?_;refine oA 3 (.int .i64 0) ?_;refine oV [(0,t0)] (n1 ?_);refine oG fun n2=>W.r ?_;refine oA 7 t0 ?_;refine oC hc (some 8) hF fun r8 h_3 hF=>?_;refine oA 6 r8 ?_;refine oE 9 hF fun v9 hF=>?_;refine oEi 10 hF fun t10 hF=>?_;refine oA 4 v9 ?_;refine oA 5 (.int .i64 t10) ?_;refine oV [(4,v9),(5,.int .i64 t10)] (n2 ?_);refine oH fun n8 q8=>?_;refine oG fun n9=>W.r ?_;refine oA 11 (.int .i64 t10) ?_;refine oB 12 hF fun t12 hF=>?_;refine oV [(4,v9),(5,.int .i64 t10),(12,.bool t12)] (n9 ?_)
 cases t12 with
 |true=>
  refine oT hF fun hF=>?_;refine oG fun n11=>W.r ?_;refine oA 13 (.int .i64 t10) ?_;refine oA 2 AV.nilp ?_;refine oA 3 (.int .i64 t10) ?_;refine oV [(2,AV.nilp),(3,.int .i64 t10)] (n11 (oY (q8 ?_)));exact lZ hF [.tmp 2,.tmp 3] [AV.nilp,.int .i64 t10] (rT (rT zd))
 |false=>
  refine oU hF fun hF=>?_;refine oZ (n8 ?_);refine oG fun n12=>W.r ?_;refine oA 14 v9 ?_;obtain⟨t15,e13,hF⟩:=z3 hF;refine WL.val (d:=(some 15)) (v:=.agg t15) (h':=h_3) (by kernel_rfl) (by kernel_rfl) (z1e9 (by kernel_rfl) e13) ?_;refine oK 16 hF fun v16 h_14 hF=>?_;refine oA 2 v16 ?_;refine oA 3 (.int .i64 0) ?_;refine oV [(2,v16),(3,.int .i64 0)] (n12 (oY ?_));exact lZ hF [.tmp 2,.tmp 3] [v16,.int .i64 0] (rT (rT zd))
noncomputable def z60(call:zc)(t0:AV)(t1:Bytes)(h:AHeap)(k16:AHeap→R)(self:Int→AHeap→R)(t16:Int)(h_24:AHeap):R:=
 lett (decide (t16<(z115 t1))) fun (t17:Bool)=>
 ifB t17
 (
  obind (idxS t1 t16) fun t22=>
  callN (call 34 [t0,.int .u8 t22] h_24) fun _ h_33=>
  obind (z74 t0) fun t25=>
  obind (z49 2 t25) fun t26=>
  obind (z7 h_33 t26) fun v27=>
  obind (avInt .i64 v27) fun t27=>
  obind (z74 t0) fun t29=>
  obind (z49 1 t29) fun t30=>
  obind (z7 h_33 t30) fun v31=>
  obind (z17d v31) fun t32=>
  lett (IntKind.i64.wrap (t27+t32)) fun (t33:Int)=>
  lett (IntKind.i64.wrap (t33 - 1)) fun (t34:Int)=>
  obind (z74 t0) fun t37=>
  obind (z49 0 t37) fun t38=>
  obind (z7 h_33 t38) fun v39=>
  obind (idxS t1 t16) fun t42=>
  lett (newH h_33 26 [.int .i64 0,.int .i64 0,.int .i64 0]) fun h_51=>
  callN (call 30 [v39,.int .u8 t42,.int .i64 t34] h_51) fun r44 h_53=>
  chk (z3d0 h_53 (AHeap.next h_33) 26 [.int .i64 0,.int .i64 0,.int .i64 0]&&(true&&true))<|
  obind (z153 0 r44) fun v45=>
  obind (z65 v45) fun t45=>
  obind (z153 1 r44) fun v46=>
  obind (z23 v46) fun t46=>
  obind (z15 h_53 3 t45 (z6 h_33)) fun h_60=>
  ifB t46
  (
   obind (z7 h_60 (AV.ptr (AHeap.next h_33) 1)) fun v49=>
   obind (avInt .i64 v49) fun t49=>
   obind (z74 t0) fun t51=>
   obind (z49 2 t51) fun t52=>
   obind (z7 h_60 t52) fun v53=>
   obind (avInt .i64 v53) fun t53=>
   lett (IntKind.i64.wrap (t49 - t53)) fun (t54:Int)=>
   obind (z15 h_60 1 [.int .i64 t54] (AV.ptr (AHeap.next h_33) 1)) fun h_71=>
   obind (z7 h_71 (AV.ptr (AHeap.next h_33) 2)) fun v57=>
   obind (avInt .i64 v57) fun t57=>
   obind (z74 t0) fun t59=>
   obind (z49 2 t59) fun t60=>
   obind (z7 h_71 t60) fun v61=>
   obind (avInt .i64 v61) fun t61=>
   lett (IntKind.i64.wrap (t57 - t61)) fun (t62:Int)=>
   obind (z15 h_71 1 [.int .i64 t62] (AV.ptr (AHeap.next h_33) 2)) fun h_81=>
   callN (call 35 [t0] h_81) fun _ h_84=>
   lett (IntKind.i64.wrap (t16+1)) fun (t67:Int)=>
   obind (z16 h_84 3 (z6 h_33)) fun t68=>
   obind (z15 h_84 3 t68 (z6 h)) fun h_89=>
   obind (z16 h_89 3 (z6 h)) fun w5_92=>
   some (.ret (.tup [.int .i64 t67,.agg w5_92,.bool true]),h_89))
  (
   lett (IntKind.i64.wrap (t16+1)) fun (t69:Int)=>
   self t69 h_60))
 (
  k16 h_24)
noncomputable def z6c(call:zc)(t0:AV)(t1:Bytes)(h:AHeap)(k16:AHeap→R):Nat→Int→AHeap→R:=ze6 (fun _ _=>none) (z60 call t0 t1 h k16)
theorem zb0(call:zc)(t0:AV)(t1:Bytes)(h:AHeap)(k16:AHeap→R)(m:Nat):z6c call t0 t1 h k16 (m+1)=z60 call t0 t1 h k16 (z6c call t0 t1 h k16 m):=rfl
noncomputable def z73(call:zc)(n:Nat)(t0:AV)(t1:Bytes)(h:AHeap):R:=lett (newH h 26 [.int .i64 0,.int .i64 0,.int .i64 0]) fun h_2=>outK (ze4 Tryd.prog h_2 .eql 31 true (some t0) (some AV.nilp)) fun v12 h_6=>obind (z23 v12) fun t12=>ifB t12 (obind (z15 h_6 3 ([.int .i64 0,.int .i64 0,.int .i64 0]:List AV) (z6 h)) fun h_10=>obind (z16 h_10 3 (z6 h)) fun w5=>some (.ret (.tup [.int .i64 0,.agg w5,.bool false]),h_10)) (lett (fun (h_17:AHeap)=>obind (z15 h_17 3 ([.int .i64 0,.int .i64 0,.int .i64 0]:List AV) (z6 h)) fun h_19=>obind (z16 h_19 3 (z6 h)) fun w5_22=>some (.ret (.tup [.int .i64 (z115 t1),.agg w5_22,.bool false]),h_19)) fun k16=>z6c call t0 t1 h k16 n 0 h_6)
set_option maxHeartbeats 4000000 in
set_option maxRecDepth 20000 in
theorem z1bd{call:zc}(hc:SaysAll Tryd.prog call){n:Nat}{t0:AV}{t1:Bytes}{h:AHeap}{rR:ARes}{hR:AHeap}(hF:z73 call n t0 t1 h=some (rR,hR)):Says Tryd.prog 19 [t0,strA t1] h rR hR:=by
 unfold z73 at hF;refine sO Tryd.func19 fun w0 m0=>?_;refine wW [(0,t0),(1,strA t1)] ?_;refine oG fun n1=>W.r ?_;refine oA 4 (.int .i64 0) ?_;refine oN 5 hF fun h_2 hF=>?_;refine oA 6 (.bool false) ?_;refine oV [(0,t0),(1,strA t1),(5,(z6 h))] (n1 ?_);refine oH fun n4 q4=>?_;refine oG fun n5=>W.r ?_;refine oA 11 t0 ?_
 replace hF:=z3c hF;obtain⟨v12,h_6,e7,hF⟩:=hF
 replace hF:=z3 hF;obtain⟨t12,c8,hF⟩:=hF
 have c8:=z57 c8;subst c8;refine WL.b (some 12) (.bool t12) h_6 e7 ?_;refine oV [(0,t0),(1,strA t1),(5,(z6 h)),(12,.bool t12)] (n5 ?_)
 cases t12 with
 |true=>
  refine oT hF fun hF=>?_;refine oG fun n9=>W.r ?_;refine oA 13 (.agg ([.int .i64 0,.int .i64 0,.int .i64 0]:List AV)) ?_;refine oA 4 (.int .i64 0) ?_;refine oW 26 (.agg ([.int .i64 0,.int .i64 0,.int .i64 0]:List AV)) hF fun h_10 hF=>?_;refine oA 6 (.bool false) ?_;refine oV [(4,.int .i64 0),(5,(z6 h)),(6,.bool false)] (n9 (oY (q4 ?_)));obtain⟨w5,e12,hF⟩:=z3 hF;exact lZ hF [.tmp 4,.cell 5 26,.tmp 6] [.int .i64 0,.agg w5,.bool false] (rT (rY e12 (rT zd)))
 |false=>
  refine oU hF fun hF=>?_;refine oZ (n4 ?_);refine W.s (fun K13 n13 e13 q13 p13=>?_);refine oG fun n14=>W.r ?_;refine oA 14 (strA t1) ?_;refine oA 15 (.int .i64 (z115 t1)) ?_;refine oA 16 (.int .i64 0) ?_;refine oV [(0,t0),(1,strA t1),(5,(z6 h)),(15,.int .i64 (z115 t1)),(16,.int .i64 0)] (n14 ?_);obtain⟨k16,e16,hF⟩:=z9 hF
  have J16:∀(h_17:AHeap),k16 h_17=some (rR,hR)→Go w0 m0 (Func.ntmps Tryd.f19) (K13 .normal) [(1,strA t1),(5,(z6 h))] [] h_17:=by
   intro h_17 hF;rw[e16] at hF;refine n13 ?_;refine oG fun n18=>W.r ?_;refine oA 70 (strA t1) ?_;refine oA 71 (.int .i64 (z115 t1)) ?_;refine oA 72 (.agg ([.int .i64 0,.int .i64 0,.int .i64 0]:List AV)) ?_;refine oA 4 (.int .i64 (z115 t1)) ?_;refine oW 26 (.agg ([.int .i64 0,.int .i64 0,.int .i64 0]:List AV)) hF fun h_19 hF=>?_;refine oA 6 (.bool false) ?_;refine oV [(4,.int .i64 (z115 t1)),(5,(z6 h)),(6,.bool false)] (n18 (oY ?_));obtain⟨w5_22,e21,hF⟩:=z3 hF;exact lZ hF [.tmp 4,.cell 5 26,.tmp 6] [.int .i64 (z115 t1),.agg w5_22,.bool false] (rT (rY e21 (rT zd)))
  refine yc (by kernel_rfl) (fun K15 n15 s15 o15 q15 p15=>?_);refine y14 (by kernel_rfl) (fun I23 K23 b23 n23 e23 q23 p23=>?_)
  have L23:∀(m:Nat) (t16:Int) (h_24:AHeap),z6c call t0 t1 h k16 m t16 h_24=some (rR,hR)→Go w0 m0 (Func.ntmps Tryd.f19) I23 [(0,t0),(1,strA t1),(5,(z6 h)),(15,.int .i64 (z115 t1)),(16,.int .i64 t16)] [] h_24:=by
   intro m
   induction m with
   |zero=>intro t16 h_24 hF;cases hF
   |succ m ih23=>
    intro t16 h_24 hF;rw[zb0] at hF;unfold z60 at hF;refine b23 ?_;refine oG fun n25=>W.r ?_;refine oB 17 hF fun t17 hF=>?_;refine oV [(0,t0),(1,strA t1),(5,(z6 h)),(15,.int .i64 (z115 t1)),(16,.int .i64 t16),(17,.bool t17)] (n25 ?_);refine W.s (fun K27 n27 e27 q27 p27=>?_)
    cases t17 with
    |true=>
     refine oT hF fun hF=>?_;refine oZ (n27 ?_);refine oH fun n28 q28=>?_;refine yc (by kernel_rfl) (fun K29 n29 s29 o29 q29 p29=>?_);refine oG fun n30=>W.r ?_;refine oA 18 (.int .i64 t16) ?_;refine oA 7 (.int .i64 t16) ?_;refine oV [(0,t0),(1,strA t1),(5,(z6 h)),(7,.int .i64 t16),(15,.int .i64 (z115 t1)),(16,.int .i64 t16)] (n30 ?_);refine oG fun n31=>W.r ?_;refine oA 19 t0 ?_;refine oA 20 (strA t1) ?_;refine oA 21 (.int .i64 t16) ?_;refine oX 22 9 .i64 hF fun t22 hF=>?_;refine oC hc (some 23) hF fun r23 h_33 hF=>?_;refine oV [(0,t0),(1,strA t1),(5,(z6 h)),(7,.int .i64 t16),(15,.int .i64 (z115 t1)),(16,.int .i64 t16)] (n31 ?_);refine oG fun n35=>?_;refine y21 (by kernel_rfl) (hc.ok w0) (plan:=[0,1,2,3,4,5,6,7,8,9,10,11]) (by kernel_rfl) (by kernel_rfl) (by kernel_rfl) ?_;refine WD.a 0 (some 24) t0 h_33 ?_;obtain⟨t25,e36,hF⟩:=z3 hF;refine WD.b 0 (some 25) t25 h_33 (z2c (h:=h_33) e36) ?_;obtain⟨t26,e37,hF⟩:=z3 hF;refine WD.b 0 (some 26) t26 h_33 (z1b (P:=Tryd.prog) (h:=h_33) (s:=78) (f:=2) (by kernel_rfl) e37) ?_
     replace hF:=z3 hF;obtain⟨v27,e38,hF⟩:=hF
     replace hF:=z3 hF;obtain⟨t27,c39,hF⟩:=hF
     have c39:=z17 c39;subst c39;refine WD.b 1 (some 27) (.int .i64 t27) h_33 (z14 (P:=Tryd.prog) (h:=h_33) (t:=3) (by kernel_rfl) e38) ?_;refine WD.a 0 (some 28) t0 h_33 ?_;obtain⟨t29,e40,hF⟩:=z3 hF;refine WD.b 0 (some 29) t29 h_33 (z2c (h:=h_33) e40) ?_;obtain⟨t30,e41,hF⟩:=z3 hF;refine WD.b 0 (some 30) t30 h_33 (z1b (P:=Tryd.prog) (h:=h_33) (s:=78) (f:=1) (by kernel_rfl) e41) ?_;obtain⟨v31,e42,hF⟩:=z3 hF;refine WD.b 1 (some 31) v31 h_33 (z14 (P:=Tryd.prog) (h:=h_33) (t:=76) (by kernel_rfl) e42) ?_;obtain⟨t32,e43,hF⟩:=z3 hF;refine WD.b 0 (some 32) (.int .i64 t32) h_33 (z3e3 (P:=Tryd.prog) (h:=h_33) (t:=76) (e':=5) (by kernel_rfl) e43) ?_;obtain⟨t33,e44,hF⟩:=z9 hF;refine WD.val (d:=(some 33)) (v:=.int .i64 t33) (h':=h_33) (by kernel_rfl) (by kernel_rfl) (z108 (AV.int .i64) e44 (by kernel_rfl)) (k:=0) (by kernel_rfl) (fun e=>absurd e (by decide)) (by decide) ?_;obtain⟨t34,e45,hF⟩:=z9 hF;refine WD.val (d:=(some 34)) (v:=.int .i64 t34) (h':=h_33) (by kernel_rfl) (by kernel_rfl) (z108 (AV.int .i64) e45 (by kernel_rfl)) (k:=0) (by kernel_rfl) (fun e=>absurd e (by decide)) (by decide) ?_;refine WD.a 0 (some 8) (.int .i64 t34) h_33 ?_;refine WD.nil ?_;refine gW [(0,t0),(1,strA t1),(5,(z6 h)),(7,.int .i64 t16),(8,.int .i64 t34),(15,.int .i64 (z115 t1)),(16,.int .i64 t16)] (n35 ?_);refine oG fun n46=>?_;refine y21 (by kernel_rfl) (hc.ok w0) (plan:=[0,1,2,3,4,5,6,7,12,8,9,10,11,13,14]) (by kernel_rfl) (by kernel_rfl) (by kernel_rfl) ?_;refine WD.a 0 (some 36) t0 h_33 ?_;obtain⟨t37,e47,hF⟩:=z3 hF;refine WD.b 0 (some 37) t37 h_33 (z2c (h:=h_33) e47) ?_;obtain⟨t38,e48,hF⟩:=z3 hF;refine WD.b 0 (some 38) t38 h_33 (z1b (P:=Tryd.prog) (h:=h_33) (s:=78) (f:=0) (by kernel_rfl) e48) ?_;obtain⟨v39,e49,hF⟩:=z3 hF;refine WD.b 1 (some 39) v39 h_33 (z14 (P:=Tryd.prog) (h:=h_33) (t:=58) (by kernel_rfl) e49) ?_;refine WD.a 0 (some 40) (strA t1) h_33 ?_;refine WD.a 0 (some 41) (.int .i64 t16) h_33 ?_;obtain⟨t42,e50,hF⟩:=z3 hF;refine WD.b 0 (some 42) (.int .u8 t42) h_33 (z230 (P:=Tryd.prog) (h:=h_33) (t:=9) (k:=.i64) (by kernel_rfl) e50) ?_;refine WD.a 0 (some 43) (.int .i64 t34) h_33 ?_;obtain⟨h_51,e52,hF⟩:=z9 hF;refine WD.val (d:=(some 9)) (v:=(z6 h_33)) (h':=h_51) (by kernel_rfl) (by kernel_rfl) (val_ofH e52 (by kernel_rfl)) (k:=1) (by kernel_rfl) (fun e=>absurd e (by decide)) (by decide) ?_;obtain⟨r44,h_53,e54,hF⟩:=z4d hF;obtain⟨k55,hF⟩:=z161 hF;refine WD.call (d:=(some 44)) (by kernel_rfl) (by kernel_rfl) (by kernel_rfl) e54 (k:=2) (by kernel_rfl) (fun _=>(Eq.trans (by kernel_rfl) k55)) (by decide) ?_;refine WD.a 0 (some 35) r44 h_53 ?_
     replace hF:=z3 hF;obtain⟨v45,e56,hF⟩:=hF
     replace hF:=z3 hF;obtain⟨t45,c57,hF⟩:=hF
     have c57:=z4e c57;subst c57;refine WD.b 0 (some 45) (.agg t45) h_53 (zfb (h:=h_53) e56) ?_
     replace hF:=z3 hF;obtain⟨v46,e58,hF⟩:=hF
     replace hF:=z3 hF;obtain⟨t46,c59,hF⟩:=hF
     have c59:=z57 c59;subst c59;refine WD.b 0 (some 46) (.bool t46) h_53 (zfb (h:=h_53) e58) ?_;obtain⟨h_60,e61,hF⟩:=z3 hF;refine WD.eff (h':=h_60) (by kernel_rfl) (by kernel_rfl) (Eq.trans (by kernel_rfl) (z3f (P:=Tryd.prog) (h:=h_53) (t:=26) (v:=(.agg t45)) (by kernel_rfl) (by kernel_rfl) e61)) (k:=2) (by kernel_rfl) (fun _=>(by kernel_rfl)) (by decide) ?_;refine WD.a 0 (some 10) (.bool t46) h_60 ?_;refine WD.nil ?_;refine gW [(0,t0),(1,strA t1),(5,(z6 h)),(7,.int .i64 t16),(9,(z6 h_33)),(10,.bool t46),(15,.int .i64 (z115 t1)),(16,.int .i64 t16)] (n46 ?_);refine oG fun n62=>W.r ?_;refine oA 47 (.bool t46) ?_;refine oV [(0,t0),(1,strA t1),(5,(z6 h)),(7,.int .i64 t16),(9,(z6 h_33)),(15,.int .i64 (z115 t1)),(16,.int .i64 t16),(47,.bool t46)] (n62 ?_)
     cases t46 with
     |true=>
      refine oT hF fun hF=>?_;refine oG fun n63=>?_;refine y21 (by kernel_rfl) (hc.ok w0) (plan:=[0,1,2,3,4,5,6,7,8]) (by kernel_rfl) (by kernel_rfl) (by kernel_rfl) ?_;refine WD.a 0 (some 48) (AV.ptr (AHeap.next h_33) 1) h_60 ?_
      replace hF:=z3 hF;obtain⟨v49,e64,hF⟩:=hF
      replace hF:=z3 hF;obtain⟨t49,c65,hF⟩:=hF
      have c65:=z17 c65;subst c65;refine WD.b 1 (some 49) (.int .i64 t49) h_60 (z14 (P:=Tryd.prog) (h:=h_60) (t:=3) (by kernel_rfl) e64) ?_;refine WD.a 0 (some 50) t0 h_60 ?_;obtain⟨t51,e66,hF⟩:=z3 hF;refine WD.b 0 (some 51) t51 h_60 (z2c (h:=h_60) e66) ?_;obtain⟨t52,e67,hF⟩:=z3 hF;refine WD.b 0 (some 52) t52 h_60 (z1b (P:=Tryd.prog) (h:=h_60) (s:=78) (f:=2) (by kernel_rfl) e67) ?_
      replace hF:=z3 hF;obtain⟨v53,e68,hF⟩:=hF
      replace hF:=z3 hF;obtain⟨t53,c69,hF⟩:=hF
      have c69:=z17 c69;subst c69;refine WD.b 1 (some 53) (.int .i64 t53) h_60 (z14 (P:=Tryd.prog) (h:=h_60) (t:=3) (by kernel_rfl) e68) ?_;obtain⟨t54,e70,hF⟩:=z9 hF;refine WD.val (d:=(some 54)) (v:=.int .i64 t54) (h':=h_60) (by kernel_rfl) (by kernel_rfl) (z108 (AV.int .i64) e70 (by kernel_rfl)) (k:=0) (by kernel_rfl) (fun e=>absurd e (by decide)) (by decide) ?_;refine WD.a 0 (some 55) (AV.ptr (AHeap.next h_33) 1) h_60 ?_;obtain⟨h_71,e72,hF⟩:=z3 hF;refine WD.eff (h':=h_71) (by kernel_rfl) (by kernel_rfl) (Eq.trans (by kernel_rfl) (z3f (P:=Tryd.prog) (h:=h_60) (t:=3) (v:=(.int .i64 t54)) (by kernel_rfl) (by kernel_rfl) e72)) (k:=2) (by kernel_rfl) (fun _=>(by kernel_rfl)) (by decide) ?_;refine WD.nil ?_;refine gW [(0,t0),(5,(z6 h)),(7,.int .i64 t16),(9,(z6 h_33))] (n63 ?_);refine oG fun n73=>?_;refine y21 (by kernel_rfl) (hc.ok w0) (plan:=[0,1,2,3,4,5,6,7,8]) (by kernel_rfl) (by kernel_rfl) (by kernel_rfl) ?_;refine WD.a 0 (some 56) (AV.ptr (AHeap.next h_33) 2) h_71 ?_
      replace hF:=z3 hF;obtain⟨v57,e74,hF⟩:=hF
      replace hF:=z3 hF;obtain⟨t57,c75,hF⟩:=hF
      have c75:=z17 c75;subst c75;refine WD.b 1 (some 57) (.int .i64 t57) h_71 (z14 (P:=Tryd.prog) (h:=h_71) (t:=3) (by kernel_rfl) e74) ?_;refine WD.a 0 (some 58) t0 h_71 ?_;obtain⟨t59,e76,hF⟩:=z3 hF;refine WD.b 0 (some 59) t59 h_71 (z2c (h:=h_71) e76) ?_;obtain⟨t60,e77,hF⟩:=z3 hF;refine WD.b 0 (some 60) t60 h_71 (z1b (P:=Tryd.prog) (h:=h_71) (s:=78) (f:=2) (by kernel_rfl) e77) ?_
      replace hF:=z3 hF;obtain⟨v61,e78,hF⟩:=hF
      replace hF:=z3 hF;obtain⟨t61,c79,hF⟩:=hF
      have c79:=z17 c79;subst c79;refine WD.b 1 (some 61) (.int .i64 t61) h_71 (z14 (P:=Tryd.prog) (h:=h_71) (t:=3) (by kernel_rfl) e78) ?_;obtain⟨t62,e80,hF⟩:=z9 hF;refine WD.val (d:=(some 62)) (v:=.int .i64 t62) (h':=h_71) (by kernel_rfl) (by kernel_rfl) (z108 (AV.int .i64) e80 (by kernel_rfl)) (k:=0) (by kernel_rfl) (fun e=>absurd e (by decide)) (by decide) ?_;refine WD.a 0 (some 63) (AV.ptr (AHeap.next h_33) 2) h_71 ?_;obtain⟨h_81,e82,hF⟩:=z3 hF;refine WD.eff (h':=h_81) (by kernel_rfl) (by kernel_rfl) (Eq.trans (by kernel_rfl) (z3f (P:=Tryd.prog) (h:=h_71) (t:=3) (v:=(.int .i64 t62)) (by kernel_rfl) (by kernel_rfl) e82)) (k:=2) (by kernel_rfl) (fun _=>(by kernel_rfl)) (by decide) ?_;refine WD.nil ?_;refine gW [(0,t0),(5,(z6 h)),(7,.int .i64 t16),(9,(z6 h_33))] (n73 ?_);refine oG fun n83=>W.r ?_;refine oA 64 t0 ?_;refine oC hc (some 65) hF fun r65 h_84 hF=>?_;refine oV [(5,(z6 h)),(7,.int .i64 t16),(9,(z6 h_33))] (n83 ?_);refine oG fun n86=>?_;refine y21 (by kernel_rfl) (hc.ok w0) (plan:=[0,1,2,3,4,5]) (by kernel_rfl) (by kernel_rfl) (by kernel_rfl) ?_;refine WD.a 0 (some 66) (.int .i64 t16) h_84 ?_;obtain⟨t67,e87,hF⟩:=z9 hF;refine WD.val (d:=(some 67)) (v:=.int .i64 t67) (h':=h_84) (by kernel_rfl) (by kernel_rfl) (z108 (AV.int .i64) e87 (by kernel_rfl)) (k:=0) (by kernel_rfl) (fun e=>absurd e (by decide)) (by decide) ?_;obtain⟨t68,e88,hF⟩:=z3 hF;refine WD.b 1 (some 68) (.agg t68) h_84 (zb1 (P:=Tryd.prog) (h:=h_84) (t:=26) (by kernel_rfl) (by kernel_rfl) e88) ?_;refine WD.a 0 (some 4) (.int .i64 t67) h_84 ?_;obtain⟨h_89,e90,hF⟩:=z3 hF;refine WD.eff (h':=h_89) (by kernel_rfl) (by kernel_rfl) (Eq.trans (by kernel_rfl) (z3f (P:=Tryd.prog) (h:=h_84) (t:=26) (v:=(.agg t68)) (by kernel_rfl) (by kernel_rfl) e90)) (k:=2) (by kernel_rfl) (fun _=>(by kernel_rfl)) (by decide) ?_;refine WD.a 0 (some 6) (.bool true) h_89 ?_;refine WD.nil ?_;refine gW [(4,.int .i64 t67),(5,(z6 h)),(6,.bool true)] (n86 (oY (q29 (q28 (q23 (q15 (q13 ?_)))))));obtain⟨w5_92,e91,hF⟩:=z3 hF;exact lZ hF [.tmp 4,.cell 5 26,.tmp 6] [.int .i64 t67,.agg w5_92,.bool true] (rT (rY e91 (rT zd)))
     |false=>
      refine oU hF fun hF=>?_;refine oZ (n29 (n28 (W.r ?_)));refine oI 69 .i64 hF fun t69 hF=>?_;refine oA 16 (.int .i64 t69) ?_;refine oV [(0,t0),(1,strA t1),(5,(z6 h)),(15,.int .i64 (z115 t1)),(16,.int .i64 t69)] (n23 ?_);exact gW _ (ih23 _ _ hF)
    |false=>
     refine oU hF fun hF=>?_;refine W.exit (by kernel_rfl) ?_;refine e27 (e23 ?_);refine s15 (by kernel_rfl) ?_;exact gW _ (J16 _ hF)
  exact gW _ (L23 _ _ _ hF)
noncomputable def z5e(call:zc)(t0:AV)(t54:Int)(k60:AHeap→R)(self:Int→AHeap→R)(t55:Int)(h_63:AHeap):R:=lett (decide (t55<t54)) fun (t56:Bool)=>ifB t56 (obind (z74 t0) fun t59=>obind (z49 0 t59) fun t60=>obind (z7 h_63 t60) fun v61=>obind (z1a8 2 v61 t55) fun t63=>obind (z74 t0) fun t65=>obind (z49 2 t65) fun t66=>obind (z7 h_63 t66) fun v67=>obind (avInt .i64 v67) fun t67=>callN (call 52 [t63,.int .i64 t67] h_63) fun _ h_78=>lett (IntKind.i64.wrap (t55+1)) fun (t69:Int)=>self t69 h_78) (k60 h_63)
noncomputable def z6b(call:zc)(t0:AV)(t54:Int)(k60:AHeap→R):Nat→Int→AHeap→R:=ze6 (fun _ _=>none) (z5e call t0 t54 k60)
theorem zaf(call:zc)(t0:AV)(t54:Int)(k60:AHeap→R)(m:Nat):z6b call t0 t54 k60 (m+1)=z5e call t0 t54 k60 (z6b call t0 t54 k60 m):=rfl
noncomputable def z72(call:zc)(n:Nat)(t0:AV)(t1:Int)(h:AHeap):R:=obind (z74 t0) fun t6=>obind (z49 1 t6) fun t7=>obind (z7 h t7) fun v8=>obind (z17d v8) fun t9=>lett (decide (t9<256)) fun (t10:Bool)=>ifB t10 (obind (z74 t0) fun t13=>obind (z49 1 t13) fun t14=>obind (z7 h t14) fun v15=>outK (z16e Tryd.prog h 76 1 [(0,.int .u8 t1)]) fun v17 h_12=>outK (z7e Tryd.prog h_12 76 76 v15 v17) fun v18 h_14=>obind (z74 t0) fun t19=>obind (z49 1 t19) fun t20=>obind (z15 h_14 1 (AV.cells v18) t20) fun h_18=>some (.ret (.tup []),h_18)) (obind (z74 t0) fun t22=>obind (z49 1 t22) fun t23=>obind (z7 h t23) fun v24=>obind (z74 t0) fun t26=>obind (z49 1 t26) fun t27=>obind (z7 h t27) fun v28=>outK (zb4 Tryd.prog h 76 v28 (some (.int .i64 1)) none) fun v29 h_27=>outK (z223 Tryd.prog h_27 76 v24 v29) fun v30 h_29=>obind (avInt .i64 v30) fun _=>obind (z74 t0) fun t32=>obind (z49 1 t32) fun t33=>obind (z7 h_29 t33) fun v34=>obind (z74 t0) fun t36=>obind (z49 1 t36) fun t37=>obind (z7 h_29 t37) fun v38=>obind (z17d v38) fun t39=>lett (IntKind.i64.wrap (t39 - 1)) fun (t40:Int)=>obind (z1a8 1 v34 t40) fun t42=>obind (z15 h_29 1 [.int .u8 t1] t42) fun h_42=>obind (z74 t0) fun t44=>obind (z49 2 t44) fun t45=>obind (z7 h_42 t45) fun v46=>obind (avInt .i64 v46) fun t46=>lett (IntKind.i64.wrap (t46+1)) fun (t47:Int)=>obind (z74 t0) fun t48=>obind (z49 2 t48) fun t49=>obind (z15 h_42 1 [.int .i64 t47] t49) fun h_52=>obind (z74 t0) fun t51=>obind (z49 0 t51) fun t52=>obind (z7 h_52 t52) fun v53=>obind (z17d v53) fun t54=>lett (fun (h_61:AHeap)=>some (.ret (.tup []),h_61)) fun k60=>z6b call t0 t54 k60 n 0 h_52)
set_option maxHeartbeats 4000000 in
set_option maxRecDepth 20000 in
theorem z1bc{call:zc}(hc:SaysAll Tryd.prog call){n:Nat}{t0:AV}{t1:Int}{h:AHeap}{rR:ARes}{hR:AHeap}(hF:z72 call n t0 t1 h=some (rR,hR)):Says Tryd.prog 34 [t0,.int .u8 t1] h rR hR:=by
 unfold z72 at hF;refine sO Tryd.func34 fun w0 m0=>?_;refine wW [(0,t0),(1,.int .u8 t1)] ?_;refine oH fun n1 q1=>?_;refine oG fun n2=>W.r ?_;refine oA 5 t0 ?_;refine oC0 6 hF fun t6 hF=>?_;refine oF 7 78 1 hF fun t7 hF=>?_;refine oL 8 76 hF fun v8 hF=>?_;refine oM 9 76 5 hF fun t9 hF=>?_;refine oB 10 hF fun t10 hF=>?_;refine oV [(0,t0),(1,.int .u8 t1),(10,.bool t10)] (n2 ?_)
 cases t10 with
 |true=>
  refine oT hF fun hF=>?_;refine oG fun n8=>W.r ?_;refine oA 11 t0 ?_;refine oA 12 t0 ?_;refine oC0 13 hF fun t13 hF=>?_;refine oF 14 78 1 hF fun t14 hF=>?_;refine oL 15 76 hF fun v15 hF=>?_;refine oA 16 (.int .u8 t1) ?_;refine oK 17 hF fun v17 h_12 hF=>?_;refine oK 18 hF fun v18 h_14 hF=>?_;refine oC0 19 hF fun t19 hF=>?_;refine oF 20 78 1 hF fun t20 hF=>?_;refine oW 76 v18 hF fun h_18 hF=>?_;refine oV [] (n8 (oY (q1 ?_)));exact lZ hF [] [] zd
 |false=>
  refine oU hF fun hF=>?_;refine oZ (n1 ?_);refine oG fun n20=>?_;refine y21 (by kernel_rfl) (hc.ok w0) (plan:=[0,1,2,3,4,5,6,7,8,9]) (by kernel_rfl) (by kernel_rfl) (by kernel_rfl) ?_;refine WD.a 0 (some 21) t0 h ?_;obtain⟨t22,e21,hF⟩:=z3 hF;refine WD.b 0 (some 22) t22 h (z2c (h:=h) e21) ?_;obtain⟨t23,e22,hF⟩:=z3 hF;refine WD.b 0 (some 23) t23 h (z1b (P:=Tryd.prog) (h:=h) (s:=78) (f:=1) (by kernel_rfl) e22) ?_;obtain⟨v24,e23,hF⟩:=z3 hF;refine WD.b 1 (some 24) v24 h (z14 (P:=Tryd.prog) (h:=h) (t:=76) (by kernel_rfl) e23) ?_;refine WD.a 0 (some 25) t0 h ?_;obtain⟨t26,e24,hF⟩:=z3 hF;refine WD.b 0 (some 26) t26 h (z2c (h:=h) e24) ?_;obtain⟨t27,e25,hF⟩:=z3 hF;refine WD.b 0 (some 27) t27 h (z1b (P:=Tryd.prog) (h:=h) (s:=78) (f:=1) (by kernel_rfl) e25) ?_;obtain⟨v28,e26,hF⟩:=z3 hF;refine WD.b 1 (some 28) v28 h (z14 (P:=Tryd.prog) (h:=h) (t:=76) (by kernel_rfl) e26) ?_;obtain⟨v29,h_27,e28,hF⟩:=z3c hF;refine WD.b 0 (some 29) v29 h_27 e28 ?_
  replace hF:=z3c hF;obtain⟨v30,h_29,e30,hF⟩:=hF
  replace hF:=z3 hF;obtain⟨t30,c31,hF⟩:=hF
  have c31:=z17 c31;subst c31;refine WD.val (d:=(some 30)) (v:=.int .i64 t30) (h':=h_29) (by kernel_rfl) (by kernel_rfl) (Eq.trans (by kernel_rfl) e30) (k:=2) (by kernel_rfl) (fun _=>(by kernel_rfl)) (by decide) ?_;refine WD.nil ?_;refine gW [(0,t0),(1,.int .u8 t1)] (n20 ?_);refine oG fun n32=>?_;refine y21 (by kernel_rfl) (hc.ok w0) (plan:=[0,1,2,3,4,5,6,7,8,9,10,11,12]) (by kernel_rfl) (by kernel_rfl) (by kernel_rfl) ?_;refine WD.a 0 (some 31) t0 h_29 ?_;obtain⟨t32,e33,hF⟩:=z3 hF;refine WD.b 0 (some 32) t32 h_29 (z2c (h:=h_29) e33) ?_;obtain⟨t33,e34,hF⟩:=z3 hF;refine WD.b 0 (some 33) t33 h_29 (z1b (P:=Tryd.prog) (h:=h_29) (s:=78) (f:=1) (by kernel_rfl) e34) ?_;obtain⟨v34,e35,hF⟩:=z3 hF;refine WD.b 1 (some 34) v34 h_29 (z14 (P:=Tryd.prog) (h:=h_29) (t:=76) (by kernel_rfl) e35) ?_;refine WD.a 0 (some 35) t0 h_29 ?_;obtain⟨t36,e36,hF⟩:=z3 hF;refine WD.b 0 (some 36) t36 h_29 (z2c (h:=h_29) e36) ?_;obtain⟨t37,e37,hF⟩:=z3 hF;refine WD.b 0 (some 37) t37 h_29 (z1b (P:=Tryd.prog) (h:=h_29) (s:=78) (f:=1) (by kernel_rfl) e37) ?_;obtain⟨v38,e38,hF⟩:=z3 hF;refine WD.b 1 (some 38) v38 h_29 (z14 (P:=Tryd.prog) (h:=h_29) (t:=76) (by kernel_rfl) e38) ?_;obtain⟨t39,e39,hF⟩:=z3 hF;refine WD.b 0 (some 39) (.int .i64 t39) h_29 (z3e3 (P:=Tryd.prog) (h:=h_29) (t:=76) (e':=5) (by kernel_rfl) e39) ?_;obtain⟨t40,e40,hF⟩:=z9 hF;refine WD.val (d:=(some 40)) (v:=.int .i64 t40) (h':=h_29) (by kernel_rfl) (by kernel_rfl) (z108 (AV.int .i64) e40 (by kernel_rfl)) (k:=0) (by kernel_rfl) (fun e=>absurd e (by decide)) (by decide) ?_;refine WD.a 0 (some 41) (.int .u8 t1) h_29 ?_;obtain⟨t42,e41,hF⟩:=z3 hF;refine WD.b 0 (some 42) t42 h_29 (z178 (P:=Tryd.prog) (h:=h_29) (t:=76) (e':=5) (k:=.i64) (by kernel_rfl) (by kernel_rfl) (by kernel_rfl) e41) ?_;obtain⟨h_42,e43,hF⟩:=z3 hF;refine WD.eff (h':=h_42) (by kernel_rfl) (by kernel_rfl) (Eq.trans (by kernel_rfl) (z3f (P:=Tryd.prog) (h:=h_29) (t:=5) (v:=(.int .u8 t1)) (by kernel_rfl) (by kernel_rfl) e43)) (k:=2) (by kernel_rfl) (fun _=>(by kernel_rfl)) (by decide) ?_;refine WD.nil ?_;refine gW [(0,t0)] (n32 ?_);refine oG fun n44=>W.r ?_;refine oA 43 t0 ?_;refine oC0 44 hF fun t44 hF=>?_;refine oF 45 78 2 hF fun t45 hF=>?_;refine oLi 46 3 hF fun t46 hF=>?_;refine oI 47 .i64 hF fun t47 hF=>?_;refine oC0 48 hF fun t48 hF=>?_;refine oF 49 78 2 hF fun t49 hF=>?_;refine oW 3 (.int .i64 t47) hF fun h_52 hF=>?_;refine oV [(0,t0)] (n44 ?_);refine oG fun n54=>W.r ?_;refine oA 50 t0 ?_;refine oC0 51 hF fun t51 hF=>?_;refine oF 52 78 0 hF fun t52 hF=>?_;refine oL 53 58 hF fun v53 hF=>?_;refine oM 54 58 97 hF fun t54 hF=>?_;refine oA 55 (.int .i64 0) ?_;refine oV [(0,t0),(54,.int .i64 t54),(55,.int .i64 0)] (n54 ?_);obtain⟨k60,e60,hF⟩:=z9 hF
  have J60:∀(h_61:AHeap),k60 h_61=some (rR,hR)→Go w0 m0 (Func.ntmps Tryd.f34) (Fin Tryd.prog Tryd.f34 w0 m0 rR hR .normal) [] [] h_61:=by
   intro h_61 hF;rw[e60] at hF;exact lY hF [] [] zd
  refine yc (by kernel_rfl) (fun K59 n59 s59 o59 q59 p59=>?_);refine y14 (by kernel_rfl) (fun I62 K62 b62 n62 e62 q62 p62=>?_)
  have L62:∀(m:Nat) (t55:Int) (h_63:AHeap),z6b call t0 t54 k60 m t55 h_63=some (rR,hR)→Go w0 m0 (Func.ntmps Tryd.f34) I62 [(0,t0),(54,.int .i64 t54),(55,.int .i64 t55)] [] h_63:=by
   intro m
   induction m with
   |zero=>intro t55 h_63 hF;cases hF
   |succ m ih62=>
    intro t55 h_63 hF;rw[zaf] at hF;unfold z5e at hF;refine b62 ?_;refine oG fun n64=>W.r ?_;refine oB 56 hF fun t56 hF=>?_;refine oV [(0,t0),(54,.int .i64 t54),(55,.int .i64 t55),(56,.bool t56)] (n64 ?_);refine W.s (fun K66 n66 e66 q66 p66=>?_)
    cases t56 with
    |true=>
     refine oT hF fun hF=>?_;refine oZ (n66 ?_);refine oG fun n67=>?_;refine yc (by kernel_rfl) (fun K68 n68 s68 o68 q68 p68=>?_);refine oG fun n69=>W.r ?_;refine oA 57 (.int .i64 t55) ?_;refine oA 4 (.int .i64 t55) ?_;refine oV [(0,t0),(4,.int .i64 t55),(54,.int .i64 t54),(55,.int .i64 t55)] (n69 ?_);refine y21 (by kernel_rfl) (hc.ok w0) (plan:=[0,1,2,3,4,5,6,7,8,9,10]) (by kernel_rfl) (by kernel_rfl) (by kernel_rfl) ?_;refine WD.a 0 (some 58) t0 h_63 ?_;obtain⟨t59,e70,hF⟩:=z3 hF;refine WD.b 0 (some 59) t59 h_63 (z2c (h:=h_63) e70) ?_;obtain⟨t60,e71,hF⟩:=z3 hF;refine WD.b 0 (some 60) t60 h_63 (z1b (P:=Tryd.prog) (h:=h_63) (s:=78) (f:=0) (by kernel_rfl) e71) ?_;obtain⟨v61,e72,hF⟩:=z3 hF;refine WD.b 1 (some 61) v61 h_63 (z14 (P:=Tryd.prog) (h:=h_63) (t:=58) (by kernel_rfl) e72) ?_;refine WD.a 0 (some 62) (.int .i64 t55) h_63 ?_;obtain⟨t63,e73,hF⟩:=z3 hF;refine WD.b 0 (some 63) t63 h_63 (z178 (P:=Tryd.prog) (h:=h_63) (t:=58) (e':=97) (k:=.i64) (by kernel_rfl) (by kernel_rfl) (by kernel_rfl) e73) ?_;refine WD.a 0 (some 64) t0 h_63 ?_;obtain⟨t65,e74,hF⟩:=z3 hF;refine WD.b 0 (some 65) t65 h_63 (z2c (h:=h_63) e74) ?_;obtain⟨t66,e75,hF⟩:=z3 hF;refine WD.b 0 (some 66) t66 h_63 (z1b (P:=Tryd.prog) (h:=h_63) (s:=78) (f:=2) (by kernel_rfl) e75) ?_
     replace hF:=z3 hF;obtain⟨v67,e76,hF⟩:=hF
     replace hF:=z3 hF;obtain⟨t67,c77,hF⟩:=hF
     have c77:=z17 c77;subst c77;refine WD.b 1 (some 67) (.int .i64 t67) h_63 (z14 (P:=Tryd.prog) (h:=h_63) (t:=3) (by kernel_rfl) e76) ?_;obtain⟨r68,h_78,e79,hF⟩:=z4d hF;refine WD.call (d:=(some 68)) (by kernel_rfl) (by kernel_rfl) (by kernel_rfl) e79 (k:=2) (by kernel_rfl) (fun _=>(by kernel_rfl)) (by decide) ?_;refine WD.nil ?_;refine gW [(0,t0),(54,.int .i64 t54),(55,.int .i64 t55)] (n68 (n67 (W.r ?_)));refine oI 69 .i64 hF fun t69 hF=>?_;refine oA 55 (.int .i64 t69) ?_;refine oV [(0,t0),(54,.int .i64 t54),(55,.int .i64 t69)] (n62 ?_);exact gW _ (ih62 _ _ hF)
    |false=>
     refine oU hF fun hF=>?_;refine W.exit (by kernel_rfl) ?_;refine e66 (e62 ?_);refine s59 (by kernel_rfl) ?_;exact gW _ (J60 _ hF)
  exact gW _ (L62 _ _ _ hF)
noncomputable def z53(call:zc)(t0:AV)(t18:Int)(k22:AHeap→R)(self:Int→AHeap→R)(t19:Int)(h_25:AHeap):R:=lett (decide (t19<t18)) fun (t20:Bool)=>ifB t20 (obind (z74 t0) fun t23=>obind (z49 0 t23) fun t24=>obind (z7 h_25 t24) fun v25=>obind (z1a8 2 v25 t19) fun t27=>callN (call 53 [t27,.int .i64 0] h_25) fun _ h_36=>lett (IntKind.i64.wrap (t19+1)) fun (t29:Int)=>self t29 h_36) (k22 h_25)
noncomputable def z5f(call:zc)(t0:AV)(t18:Int)(k22:AHeap→R):Nat→Int→AHeap→R:=ze6 (fun _ _=>none) (z53 call t0 t18 k22)
theorem za6(call:zc)(t0:AV)(t18:Int)(k22:AHeap→R)(m:Nat):z5f call t0 t18 k22 (m+1)=z53 call t0 t18 k22 (z5f call t0 t18 k22 m):=rfl
noncomputable def z64(call:zc)(n:Nat)(t0:AV)(h:AHeap):R:=obind (z74 t0) fun t5=>obind (z49 1 t5) fun t6=>obind (z7 h t6) fun v7=>outK (zb4 Tryd.prog h 76 v7 none (some (.int .i64 0))) fun v8 h_5=>obind (z74 t0) fun t9=>obind (z49 1 t9) fun t10=>obind (z15 h_5 1 (AV.cells v8) t10) fun h_9=>obind (z74 t0) fun t12=>obind (z49 2 t12) fun t13=>obind (z15 h_9 1 [.int .i64 0] t13) fun h_14=>obind (z74 t0) fun t15=>obind (z49 0 t15) fun t16=>obind (z7 h_14 t16) fun v17=>obind (z17d v17) fun t18=>lett (fun (h_23:AHeap)=>some (.ret (.tup []),h_23)) fun k22=>z5f call t0 t18 k22 n 0 h_14
set_option maxHeartbeats 4000000 in
set_option maxRecDepth 20000 in
theorem z1a7{call:zc}(hc:SaysAll Tryd.prog call){n:Nat}{t0:AV}{h:AHeap}{rR:ARes}{hR:AHeap}(hF:z64 call n t0 h=some (rR,hR)):Says Tryd.prog 35 [t0] h rR hR:=by
 unfold z64 at hF;refine sO Tryd.func35 fun w0 m0=>?_;refine wW [(0,t0)] ?_;refine oG fun n1=>W.r ?_;refine oA 3 t0 ?_;refine oA 4 t0 ?_;refine oC0 5 hF fun t5 hF=>?_;refine oF 6 78 1 hF fun t6 hF=>?_;refine oL 7 76 hF fun v7 hF=>?_;refine oK 8 hF fun v8 h_5 hF=>?_;refine oC0 9 hF fun t9 hF=>?_;refine oF 10 78 1 hF fun t10 hF=>?_;refine oW 76 v8 hF fun h_9 hF=>?_;refine oV [(0,t0)] (n1 ?_);refine oG fun n11=>W.r ?_;refine oA 11 t0 ?_;refine oC0 12 hF fun t12 hF=>?_;refine oF 13 78 2 hF fun t13 hF=>?_;refine oW 3 (.int .i64 0) hF fun h_14 hF=>?_;refine oV [(0,t0)] (n11 ?_);refine oG fun n16=>W.r ?_;refine oA 14 t0 ?_;refine oC0 15 hF fun t15 hF=>?_;refine oF 16 78 0 hF fun t16 hF=>?_;refine oL 17 58 hF fun v17 hF=>?_;refine oM 18 58 97 hF fun t18 hF=>?_;refine oA 19 (.int .i64 0) ?_;refine oV [(0,t0),(18,.int .i64 t18),(19,.int .i64 0)] (n16 ?_);obtain⟨k22,e22,hF⟩:=z9 hF
 have J22:∀(h_23:AHeap),k22 h_23=some (rR,hR)→Go w0 m0 (Func.ntmps Tryd.f35) (Fin Tryd.prog Tryd.f35 w0 m0 rR hR .normal) [] [] h_23:=by
  intro h_23 hF;rw[e22] at hF;exact lY hF [] [] zd
 refine yc (by kernel_rfl) (fun K21 n21 s21 o21 q21 p21=>?_);refine y14 (by kernel_rfl) (fun I24 K24 b24 n24 e24 q24 p24=>?_)
 have L24:∀(m:Nat) (t19:Int) (h_25:AHeap),z5f call t0 t18 k22 m t19 h_25=some (rR,hR)→Go w0 m0 (Func.ntmps Tryd.f35) I24 [(0,t0),(18,.int .i64 t18),(19,.int .i64 t19)] [] h_25:=by
  intro m
  induction m with
  |zero=>intro t19 h_25 hF;cases hF
  |succ m ih24=>
   intro t19 h_25 hF;rw[za6] at hF;unfold z53 at hF;refine b24 ?_;refine oG fun n26=>W.r ?_;refine oB 20 hF fun t20 hF=>?_;refine oV [(0,t0),(18,.int .i64 t18),(19,.int .i64 t19),(20,.bool t20)] (n26 ?_);refine W.s (fun K28 n28 e28 q28 p28=>?_)
   cases t20 with
   |true=>
    refine oT hF fun hF=>?_;refine oZ (n28 ?_);refine oG fun n29=>?_;refine yc (by kernel_rfl) (fun K30 n30 s30 o30 q30 p30=>?_);refine oG fun n31=>W.r ?_;refine oA 21 (.int .i64 t19) ?_;refine oA 2 (.int .i64 t19) ?_;refine oV [(0,t0),(2,.int .i64 t19),(18,.int .i64 t18),(19,.int .i64 t19)] (n31 (W.r ?_));refine oA 22 t0 ?_;refine oC0 23 hF fun t23 hF=>?_;refine oF 24 78 0 hF fun t24 hF=>?_;refine oL 25 58 hF fun v25 hF=>?_;refine oA 26 (.int .i64 t19) ?_;refine oP 27 58 97 .i64 hF fun t27 hF=>?_;refine oC hc (some 28) hF fun r28 h_36 hF=>?_;refine oV [(0,t0),(18,.int .i64 t18),(19,.int .i64 t19)] (n30 (n29 (W.r ?_)));refine oI 29 .i64 hF fun t29 hF=>?_;refine oA 19 (.int .i64 t29) ?_;refine oV [(0,t0),(18,.int .i64 t18),(19,.int .i64 t29)] (n24 ?_);exact gW _ (ih24 _ _ hF)
   |false=>
    refine oU hF fun hF=>?_;refine W.exit (by kernel_rfl) ?_;refine e28 (e24 ?_);refine s21 (by kernel_rfl) ?_;exact gW _ (J22 _ hF)
 exact gW _ (L24 _ _ _ hF)
noncomputable def z78(t0:AV)(t1:Int)(k4:Int→AHeap→R)(self:Int→AHeap→R)(t4_20:Int)(h_21:AHeap):R:=obind (z74 t0) fun t7=>obind (z49 1 t7) fun t8=>obind (z7 h_21 t8) fun v9=>obind (z17d v9) fun t10=>lett (decide (t4_20<t10)) fun (t11:Bool)=>lett (fun (t23:Bool) (h_29:AHeap)=>ifB t23 (lett (IntKind.i64.wrap (t4_20+1)) fun (t25:Int)=>self t25 h_29) (k4 t4_20 h_29)) fun j23=>ifB t11 (obind (z74 t0) fun t14=>obind (z49 1 t14) fun t15=>obind (z7 h_21 t15) fun v16=>obind (z1a8 2 v16 t4_20) fun t18=>obind (z49 1 t18) fun t19=>obind (z7 h_21 t19) fun v20=>obind (avInt .i64 v20) fun t20=>lett (decide (t20<t1)) fun (t22:Bool)=>j23 t22 h_21) (j23 false h_21)
noncomputable def z8b(t0:AV)(t1:Int)(k4:Int→AHeap→R):Nat→Int→AHeap→R:=ze6 (fun _ _=>none) (z78 t0 t1 k4)
theorem zd1(t0:AV)(t1:Int)(k4:Int→AHeap→R)(m:Nat):z8b t0 t1 k4 (m+1)=z78 t0 t1 k4 (z8b t0 t1 k4 m):=rfl
noncomputable def z92(call:zc)(n:Nat)(t0:AV)(t1:Int)(h:AHeap):R:=lett (fun (t4:Int) (h_5:AHeap)=>obind (z74 t0) fun t28=>obind (z49 1 t28) fun t29=>obind (z7 h_5 t29) fun v30=>obind (z74 t0) fun t32=>obind (z49 1 t32) fun t33=>obind (z7 h_5 t33) fun v34=>outK (zb4 Tryd.prog h_5 95 v34 (some (.int .i64 t4)) none) fun v36 h_12=>outK (z223 Tryd.prog h_12 95 v30 v36) fun v37 h_14=>obind (avInt .i64 v37) fun t37=>callN (call 53 [t0,.int .i64 t37] h_14) fun _ h_17=>some (.ret (.tup []),h_17)) fun k4=>z8b t0 t1 k4 n 0 h
set_option maxHeartbeats 4000000 in
set_option maxRecDepth 20000 in
theorem z1fe{call:zc}(hc:SaysAll Tryd.prog call){n:Nat}{t0:AV}{t1:Int}{h:AHeap}{rR:ARes}{hR:AHeap}(hF:z92 call n t0 t1 h=some (rR,hR)):Says Tryd.prog 52 [t0,.int .i64 t1] h rR hR:=by
 unfold z92 at hF;refine sO Tryd.func52 fun w0 m0=>?_;refine wW [(0,t0),(1,.int .i64 t1)] ?_;refine oG fun n1=>W.r ?_;refine oA 4 (.int .i64 0) ?_;refine oV [(0,t0),(1,.int .i64 t1),(4,.int .i64 0)] (n1 ?_);refine W.s (fun K2 n2 e2 q2 p2=>?_);obtain⟨k4,e4,hF⟩:=z9 hF
 have J4:∀(t4:Int) (h_5:AHeap),k4 t4 h_5=some (rR,hR)→Go w0 m0 (Func.ntmps Tryd.f52) (K2 .normal) [(0,t0),(4,.int .i64 t4)] [] h_5:=by
  intro t4 h_5 hF;rw[e4] at hF;refine n2 ?_;refine y21 (by kernel_rfl) (hc.ok w0) (plan:=[0,1,2,3,4,5,6,7,8,9,10,11,12]) (by kernel_rfl) (by kernel_rfl) (by kernel_rfl) ?_;refine WD.a 0 (some 26) t0 h_5 ?_;refine WD.a 0 (some 27) t0 h_5 ?_;obtain⟨t28,e6,hF⟩:=z3 hF;refine WD.b 0 (some 28) t28 h_5 (z2c (h:=h_5) e6) ?_;obtain⟨t29,e7,hF⟩:=z3 hF;refine WD.b 0 (some 29) t29 h_5 (z1b (P:=Tryd.prog) (h:=h_5) (s:=97) (f:=1) (by kernel_rfl) e7) ?_;obtain⟨v30,e8,hF⟩:=z3 hF;refine WD.b 1 (some 30) v30 h_5 (z14 (P:=Tryd.prog) (h:=h_5) (t:=95) (by kernel_rfl) e8) ?_;refine WD.a 0 (some 31) t0 h_5 ?_;obtain⟨t32,e9,hF⟩:=z3 hF;refine WD.b 0 (some 32) t32 h_5 (z2c (h:=h_5) e9) ?_;obtain⟨t33,e10,hF⟩:=z3 hF;refine WD.b 0 (some 33) t33 h_5 (z1b (P:=Tryd.prog) (h:=h_5) (s:=97) (f:=1) (by kernel_rfl) e10) ?_;obtain⟨v34,e11,hF⟩:=z3 hF;refine WD.b 1 (some 34) v34 h_5 (z14 (P:=Tryd.prog) (h:=h_5) (t:=95) (by kernel_rfl) e11) ?_;refine WD.a 0 (some 35) (.int .i64 t4) h_5 ?_;obtain⟨v36,h_12,e13,hF⟩:=z3c hF;refine WD.b 0 (some 36) v36 h_12 e13 ?_
  replace hF:=z3c hF;obtain⟨v37,h_14,e15,hF⟩:=hF
  replace hF:=z3 hF;obtain⟨t37,c16,hF⟩:=hF
  have c16:=z17 c16;subst c16;refine WD.val (d:=(some 37)) (v:=.int .i64 t37) (h':=h_14) (by kernel_rfl) (by kernel_rfl) (Eq.trans (by kernel_rfl) e15) (k:=2) (by kernel_rfl) (fun _=>(by kernel_rfl)) (by decide) ?_;obtain⟨r38,h_17,e18,hF⟩:=z4d hF;refine WD.call (d:=(some 38)) (by kernel_rfl) (by kernel_rfl) (by kernel_rfl) e18 (k:=2) (by kernel_rfl) (fun _=>(by kernel_rfl)) (by decide) ?_;refine WD.nil ?_;refine gW [] ?_;exact lY hF [] [] zd
 refine yc (by kernel_rfl) (fun K3 n3 s3 o3 q3 p3=>?_);refine y14 (by kernel_rfl) (fun I19 K19 b19 n19 e19 q19 p19=>?_)
 have L19:∀(m:Nat) (t4_20:Int) (h_21:AHeap),z8b t0 t1 k4 m t4_20 h_21=some (rR,hR)→Go w0 m0 (Func.ntmps Tryd.f52) I19 [(0,t0),(1,.int .i64 t1),(4,.int .i64 t4_20)] [] h_21:=by
  intro m
  induction m with
  |zero=>intro t4_20 h_21 hF;cases hF
  |succ m ih19=>
   intro t4_20 h_21 hF;rw[zd1] at hF;unfold z78 at hF;refine b19 ?_;refine W.s (fun K22 n22 e22 q22 p22=>?_);refine W.s (fun K23 n23 e23 q23 p23=>?_);refine W.r ?_;refine oA 5 (.int .i64 t4_20) ?_;refine oA 6 t0 ?_;refine oC0 7 hF fun t7 hF=>?_;refine oF 8 97 1 hF fun t8 hF=>?_;refine oL 9 95 hF fun v9 hF=>?_;refine oM 10 95 123 hF fun t10 hF=>?_;refine oB 11 hF fun t11 hF=>?_;refine oA 12 (.bool t11) ?_;obtain⟨j23,e30,hF⟩:=z9 hF
   have J31:∀(t23:Bool) (h_29:AHeap),j23 t23 h_29=some (rR,hR)→WL Tryd.prog w0 m0 (Func.ntmps Tryd.f52) (Code.ops (y4 (y4 (y4 (y4 (y4 (y3 (z55 Tryd.f52)))))))) 19 K23 [(0,t0),(1,.int .i64 t1),(4,.int .i64 t4_20),(23,.bool t23)] [] h_29:=by
    intro t23 h_29 hF;rw[e30] at hF;refine oV [(0,t0),(1,.int .i64 t1),(4,.int .i64 t4_20),(23,.bool t23)] (n23 ?_)
    cases t23 with
    |true=>
     refine oT hF fun hF=>?_;refine oZ (n22 ?_);refine yc (by kernel_rfl) (fun K32 n32 s32 o32 q32 p32=>?_);refine W.r ?_;refine oA 24 (.int .i64 t4_20) ?_;refine oI 25 .i64 hF fun t25 hF=>?_;refine oA 4 (.int .i64 t25) ?_;refine oV [(0,t0),(1,.int .i64 t1),(4,.int .i64 t25)] (n32 (n19 ?_));exact gW _ (ih19 _ _ hF)
    |false=>
     refine oU hF fun hF=>?_;refine W.exit (by kernel_rfl) ?_;refine e22 (e19 ?_);refine s3 (by kernel_rfl) ?_;exact gW _ (J4 _ _ hF)
   cases t11 with
   |true=>
    replace hF:=zc3 hF
    refine oA 13 t0 ?_;refine oC0 14 hF fun t14 hF=>?_;refine oF 15 97 1 hF fun t15 hF=>?_;refine oL 16 95 hF fun v16 hF=>?_;refine oA 17 (.int .i64 t4_20) ?_;refine oP 18 95 123 .i64 hF fun t18 hF=>?_;refine oF 19 123 1 hF fun t19 hF=>?_;refine oLi 20 3 hF fun t20 hF=>?_;refine oA 21 (.int .i64 t1) ?_;refine oB 22 hF fun t22 hF=>?_;refine oA 23 (.bool t22) ?_;exact lW _ (J31 _ _ hF)
   |false=>
    replace hF:=zc4 hF
    refine WL.o (some 13) ?_;refine WL.o (some 14) ?_;refine WL.o (some 15) ?_;refine WL.o (some 16) ?_;refine WL.o (some 17) ?_;refine WL.o (some 18) ?_;refine WL.o (some 19) ?_;refine WL.o (some 20) ?_;refine WL.o (some 21) ?_;refine WL.o (some 22) ?_;refine oA 23 (.bool false) ?_;exact lW _ (J31 _ _ hF)
 exact gW _ (L19 _ _ _ hF)
noncomputable def ze5(_:zc)(_:Nat)(t0:AV)(h:AHeap):R:=outK (ze4 Tryd.prog h .eql 31 true (some t0) (some AV.nilp)) fun v4 h_4=>obind (z23 v4) fun t4=>ifB t4 (some (.ret (strA ([]:Bytes)),h_4)) (obind (z74 t0) fun t6=>obind (z49 1 t6) fun t7=>obind (z7 h_4 t7) fun v8=>outK (z224 Tryd.prog h_4 76 9 (some v8)) fun v9 h_12=>obind (z1c4 v9) fun t9=>some (.ret (strA t9),h_12))
set_option maxHeartbeats 4000000 in
set_option maxRecDepth 20000 in
theorem z18b{call:zc}(_:SaysAll Tryd.prog call){n:Nat}{t0:AV}{h:AHeap}{rR:ARes}{hR:AHeap}(hF:ze5 call n t0 h=some (rR,hR)):Says Tryd.prog 21 [t0] h rR hR:=by
 unfold ze5 at hF;refine sO Tryd.func21 fun w0 m0=>?_;refine wW [(0,t0)] ?_;refine oG fun n1=>W.r ?_;refine oA 2 (strA ([]:Bytes)) ?_;refine oV [(0,t0)] (n1 ?_);refine oH fun n2 q2=>?_;refine oG fun n3=>W.r ?_;refine oA 3 t0 ?_
 replace hF:=z3c hF;obtain⟨v4,h_4,e5,hF⟩:=hF
 replace hF:=z3 hF;obtain⟨t4,c6,hF⟩:=hF
 have c6:=z57 c6;subst c6;refine WL.b (some 4) (.bool t4) h_4 e5 ?_;refine oV [(0,t0),(4,.bool t4)] (n3 ?_)
 cases t4 with
 |true=>
  refine oT hF fun hF=>?_;refine oG fun n7=>W.r ?_;refine oA 2 (strA ([]:Bytes)) ?_;refine oV [(2,strA ([]:Bytes))] (n7 (oY (q2 ?_)));exact lZ hF [.tmp 2] [strA ([]:Bytes)] (rT zd)
 |false=>
  refine oU hF fun hF=>?_;refine oZ (n2 ?_);refine oG fun n8=>W.r ?_;refine oA 5 t0 ?_;refine oC0 6 hF fun t6 hF=>?_;refine oF 7 78 1 hF fun t7 hF=>?_;refine oL 8 76 hF fun v8 hF=>?_
  replace hF:=z3c hF;obtain⟨v9,h_12,e13,hF⟩:=hF
  replace hF:=z3 hF;obtain⟨t9,c14,hF⟩:=hF
  have c14:=z105 c14;subst c14;refine WL.b (some 9) (strA t9) h_12 e13 ?_;refine oA 2 (strA t9) ?_;refine oV [(2,strA t9)] (n8 (oY ?_));exact lZ hF [.tmp 2] [strA t9] (rT zd)
noncomputable def z144(_:zc)(_:Nat)(t0:Bytes)(h:AHeap):R:=
 lett (IntKind.i64.wrap ((z115 t0) - 256)) fun (t6:Int)=>
 lett (if t6>0 then t6 else 0) fun (t7:Int)=>
 obind (z1ae t0 t7 (z115 t0)) fun t8=>
 some (.ret (strA t8),h)
set_option maxHeartbeats 4000000 in
set_option maxRecDepth 20000 in
theorem z349{call:zc}(_:SaysAll Tryd.prog call){n:Nat}{t0:Bytes}{h:AHeap}{rR:ARes}{hR:AHeap}(hF:z144 call n t0 h=some (rR,hR)):Says Tryd.prog 24 [strA t0] h rR hR:=by
 unfold z144 at hF;refine sO Tryd.func24 fun w0 m0=>?_;refine wW [(0,strA t0)] ?_;refine oG fun n1=>W.r ?_;refine oA 2 (strA ([]:Bytes)) ?_;refine oV [(0,strA t0)] (n1 ?_);refine oG fun n2=>W.r ?_;refine oA 3 (strA t0) ?_;refine oA 4 (strA t0) ?_;refine oA 5 (.int .i64 (z115 t0)) ?_;refine oI 6 .i64 hF fun t6 hF=>?_;refine oI 7 .i64 hF fun t7 hF=>?_;obtain⟨t8,e5,hF⟩:=z3 hF;refine WL.b (some 8) (strA t8) h (z1ad (P:=Tryd.prog) (h:=h) (t:=9) (A:=(some (.int .i64 t7))) (B:=none) (by kernel_rfl) (.inl ⟨_,rfl⟩) (.inr ⟨rfl,rfl⟩) e5) ?_;refine oA 2 (strA t8) ?_;refine oV [(2,strA t8)] (n2 (oY ?_));exact lZ hF [.tmp 2] [strA t8] (rT zd)
noncomputable def zf9(call:zc)(_:Nat)(h:AHeap):R:=outK (z16e Tryd.prog h 22 2 [(0,.agg ([.int .i64 1,strA ([98]:Bytes)]:List AV)),(1,.agg ([.int .i64 3,strA ([97,43]:Bytes)]:List AV))]) fun v11 h_3=>callN (call 16 [v11] h_3) fun r14 h_6=>obind (z153 0 r14) fun v15=>obind (z153 1 r14) fun v16=>obind (avInt .i64 v16) fun t16=>lett ((t16:Int) != 0) fun (t18:Bool)=>lett (fun (t22:Bool) (h_14:AHeap)=>ifB t22 (some (.ret (.bool false),h_14)) (callN (call 14 [v11,strA ([120,97,98]:Bytes)] h_14) fun r25 h_19=>obind (z153 0 r25) fun v26=>obind (z65 v26) fun t26=>obind (z153 1 r25) fun v27=>obind (z23 v27) fun t27=>lett (newH h_19 26 [.int .i64 0,.int .i64 0,.int .i64 0]) fun h_25=>obind (z15 h_25 3 t26 (z6 h_19)) fun h_27=>callN (call 19 [v15,strA ([120,97,98]:Bytes)] h_27) fun r30 h_30=>obind (z153 0 r30) fun v31=>obind (avInt .i64 v31) fun t31=>obind (z153 1 r30) fun v32=>obind (z65 v32) fun t32=>obind (z153 2 r30) fun v33=>obind (z23 v33) fun t33=>lett (newH h_30 26 [.int .i64 0,.int .i64 0,.int .i64 0]) fun h_38=>obind (z15 h_38 3 t32 (z6 h_30)) fun h_40=>obind (z16 h_40 3 (z6 h_19)) fun t34=>obind (zb2 Tryd.prog 26 (.agg t34) (.agg ([.int .i64 1,.int .i64 1,.int .i64 2]:List AV))) fun t36=>lett (fun (t39:Bool) (h_45:AHeap)=>lett (fun (t43:Bool) (h_48:AHeap)=>lett (fun (t48:Bool) (h_51:AHeap)=>lett (fun (t51:Bool) (h_54:AHeap)=>lett (fun (t55:Bool) (h_57:AHeap)=>some (.ret (.bool t55),h_57)) fun j55=>ifB t51 (callN (call 24 [strA ([97]:Bytes)] h_54) fun r53 h_60=>obind (z1c4 r53) fun t53=>lett (eqS t53 ([97]:Bytes)) fun (t54:Bool)=>j55 t54 h_60) (j55 false h_54)) fun j51=>ifB t48 (j51 t33 h_51) (j51 false h_51)) fun j48=>ifB t43 (obind (z16 h_48 3 (z6 h_30)) fun t45=>obind (z16 h_48 3 (z6 h_19)) fun t46=>obind (zb2 Tryd.prog 26 (.agg t45) (.agg t46)) fun t47=>j48 t47 h_48) (j48 false h_48)) fun j43=>ifB t39 (lett ((t31:Int) == 2) fun (t42:Bool)=>j43 t42 h_45) (j43 false h_45)) fun j39=>ifB t36 (j39 t27 h_40) (j39 false h_40))) fun j22=>ifB t18 (j22 true h_6) (outK (ze4 Tryd.prog h_6 .eql 31 true (some v15) (some AV.nilp)) fun v21 h_68=>obind (z23 v21) fun t21=>j22 t21 h_68)
set_option maxHeartbeats 4000000 in
set_option maxRecDepth 20000 in
theorem z2ea{call:zc}(hc:SaysAll Tryd.prog call){n:Nat}{h:AHeap}{rR:ARes}{hR:AHeap}(hF:zf9 call n h=some (rR,hR)):Says Tryd.prog 12 [] h rR hR:=by
 unfold zf9 at hF;refine sO Tryd.func12 fun w0 m0=>?_;refine wW [] ?_;refine oG fun n1=>W.r ?_;refine oA 0 (.bool false) ?_;refine oV [] (n1 ?_);refine oG fun n2=>W.r ?_;refine oA 9 (.agg ([.int .i64 1,strA ([98]:Bytes)]:List AV)) ?_;refine oA 10 (.agg ([.int .i64 3,strA ([97,43]:Bytes)]:List AV)) ?_;refine oK 11 hF fun v11 h_3 hF=>?_;refine oA 1 v11 ?_;refine oV [(1,v11)] (n2 ?_);refine oG fun n5=>W.r ?_;refine oA 13 v11 ?_;refine oC hc (some 14) hF fun r14 h_6 hF=>?_;refine oA 12 r14 ?_;refine oE 15 hF fun v15 hF=>?_;refine oEi 16 hF fun t16 hF=>?_;refine oA 2 v15 ?_;refine oA 3 (.int .i64 t16) ?_;refine oV [(1,v11),(2,v15),(3,.int .i64 t16)] (n5 ?_);refine oH fun n11 q11=>?_;refine W.s (fun K12 n12 e12 q12 p12=>?_);refine W.r ?_;refine oA 17 (.int .i64 t16) ?_;refine oB 18 hF fun t18 hF=>?_;refine oA 19 (.bool t18) ?_;obtain⟨j22,e15,hF⟩:=z9 hF
 have J16:∀(t22:Bool) (h_14:AHeap),j22 t22 h_14=some (rR,hR)→WL Tryd.prog w0 m0 (Func.ntmps Tryd.f12) (Code.ops (y4 (y4 (y3 (y3 (y3 (z55 Tryd.f12))))))) 6 K12 [(1,v11),(2,v15),(22,.bool t22)] [] h_14:=by
  intro t22 h_14 hF;rw[e15] at hF;refine oV [(1,v11),(2,v15),(22,.bool t22)] (n12 ?_)
  cases t22 with
  |true=>
   refine oT hF fun hF=>?_;refine oG fun n17=>W.r ?_;refine oA 0 (.bool false) ?_;refine oV [(0,.bool false)] (n17 (oY (q11 ?_)));exact lZ hF [.tmp 0] [.bool false] (rT zd)
  |false=>
   refine oU hF fun hF=>?_;refine oZ (n11 ?_);refine oG fun n18=>W.r ?_;refine oA 24 v11 ?_;refine oC hc (some 25) hF fun r25 h_19 hF=>?_;refine oA 23 r25 ?_;refine oEa 26 hF fun t26 hF=>?_;refine oEb 27 hF fun t27 hF=>?_;refine oN 4 hF fun h_25 hF=>?_;refine oW 26 (.agg t26) hF fun h_27 hF=>?_;refine oA 5 (.bool t27) ?_;refine oV [(2,v15),(4,(z6 h_19)),(5,.bool t27)] (n18 ?_);refine oG fun n29=>W.r ?_;refine oA 29 v15 ?_;refine oC hc (some 30) hF fun r30 h_30 hF=>?_;refine oA 28 r30 ?_;refine oEi 31 hF fun t31 hF=>?_;refine oEa 32 hF fun t32 hF=>?_;refine oEb 33 hF fun t33 hF=>?_;refine oN 7 hF fun h_38 hF=>?_;refine oA 6 (.int .i64 t31) ?_;refine oW 26 (.agg t32) hF fun h_40 hF=>?_;refine oA 8 (.bool t33) ?_;refine oV [(4,(z6 h_19)),(5,.bool t27),(6,.int .i64 t31),(7,(z6 h_30)),(8,.bool t33)] (n29 ?_);refine W.s (fun K42 n42 e42 q42 p42=>?_);refine W.r ?_;refine oR 34 26 hF fun t34 hF=>?_;refine oA 35 (.agg ([.int .i64 1,.int .i64 1,.int .i64 2]:List AV)) ?_;obtain⟨t36,e44,hF⟩:=z3 hF;refine WL.b (some 36) (.bool t36) h_40 (z293 (P:=Tryd.prog) (h:=h_40) (t:=26) (lit:=false) (by kernel_rfl) e44) ?_;refine oA 37 (.bool t36) ?_;obtain⟨j39,e46,hF⟩:=z9 hF
   have J47:∀(t39:Bool) (h_45:AHeap),j39 t39 h_45=some (rR,hR)→WL Tryd.prog w0 m0 (Func.ntmps Tryd.f12) (Code.ops (y4 (y3 (y3 (y3 (y3 (y3 (y3 (z55 Tryd.f12))))))))) 6 K42 [(4,(z6 h_19)),(6,.int .i64 t31),(7,(z6 h_30)),(8,.bool t33),(39,.bool t39)] [] h_45:=by
    intro t39 h_45 hF;rw[e46] at hF;refine oA 40 (.bool t39) ?_;obtain⟨j43,e49,hF⟩:=z9 hF
    have J50:∀(t43:Bool) (h_48:AHeap),j43 t43 h_48=some (rR,hR)→WL Tryd.prog w0 m0 (Func.ntmps Tryd.f12) (Code.ops (y4 (y3 (y3 (y3 (y3 (y3 (y3 (z55 Tryd.f12))))))))) 10 K42 [(4,(z6 h_19)),(7,(z6 h_30)),(8,.bool t33),(43,.bool t43)] [] h_48:=by
     intro t43 h_48 hF;rw[e49] at hF;refine oA 44 (.bool t43) ?_;obtain⟨j48,e52,hF⟩:=z9 hF
     have J53:∀(t48:Bool) (h_51:AHeap),j48 t48 h_51=some (rR,hR)→WL Tryd.prog w0 m0 (Func.ntmps Tryd.f12) (Code.ops (y4 (y3 (y3 (y3 (y3 (y3 (y3 (z55 Tryd.f12))))))))) 15 K42 [(8,.bool t33),(48,.bool t48)] [] h_51:=by
      intro t48 h_51 hF;rw[e52] at hF;refine oA 49 (.bool t48) ?_;obtain⟨j51,e55,hF⟩:=z9 hF
      have J56:∀(t51:Bool) (h_54:AHeap),j51 t51 h_54=some (rR,hR)→WL Tryd.prog w0 m0 (Func.ntmps Tryd.f12) (Code.ops (y4 (y3 (y3 (y3 (y3 (y3 (y3 (z55 Tryd.f12))))))))) 18 K42 [(51,.bool t51)] [] h_54:=by
       intro t51 h_54 hF;rw[e55] at hF;refine oA 52 (.bool t51) ?_;obtain⟨j55,e58,hF⟩:=z9 hF
       have J59:∀(t55:Bool) (h_57:AHeap),j55 t55 h_57=some (rR,hR)→WL Tryd.prog w0 m0 (Func.ntmps Tryd.f12) (Code.ops (y4 (y3 (y3 (y3 (y3 (y3 (y3 (z55 Tryd.f12))))))))) 22 K42 [(55,.bool t55)] [] h_57:=by
        intro t55 h_57 hF;rw[e58] at hF;refine oA 0 (.bool t55) ?_;refine oV [(0,.bool t55)] (n42 (oY ?_));exact lZ hF [.tmp 0] [.bool t55] (rT zd)
       cases t51 with
       |true=>
        replace hF:=zc3 hF
        refine oCs hc 53 hF fun t53 h_60 hF=>?_;refine oB 54 hF fun t54 hF=>?_;refine oA 55 (.bool t54) ?_;exact lW _ (J59 _ _ hF)
       |false=>
        replace hF:=zc4 hF
        refine WL.o (some 53) ?_;refine WL.o (some 54) ?_;refine oA 55 (.bool false) ?_;exact lW _ (J59 _ _ hF)
      cases t48 with
      |true=>
       replace hF:=zc3 hF
       refine oA 50 (.bool t33) ?_;refine oA 51 (.bool t33) ?_;exact lW _ (J56 _ _ hF)
      |false=>
       replace hF:=zc4 hF
       refine WL.o (some 50) ?_;refine oA 51 (.bool false) ?_;exact lW _ (J56 _ _ hF)
     cases t43 with
     |true=>
      replace hF:=zc3 hF
      refine oR 45 26 hF fun t45 hF=>?_;refine oR 46 26 hF fun t46 hF=>?_;obtain⟨t47,e66,hF⟩:=z3 hF;refine WL.b (some 47) (.bool t47) h_48 (z293 (P:=Tryd.prog) (h:=h_48) (t:=26) (lit:=false) (by kernel_rfl) e66) ?_;refine oA 48 (.bool t47) ?_;exact lW _ (J53 _ _ hF)
     |false=>
      replace hF:=zc4 hF
      refine WL.o (some 45) ?_;refine WL.o (some 46) ?_;refine WL.o (some 47) ?_;refine oA 48 (.bool false) ?_;exact lW _ (J53 _ _ hF)
    cases t39 with
    |true=>
     replace hF:=zc3 hF
     refine oA 41 (.int .i64 t31) ?_;refine oB 42 hF fun t42 hF=>?_;refine oA 43 (.bool t42) ?_;exact lW _ (J50 _ _ hF)
    |false=>
     replace hF:=zc4 hF
     refine WL.o (some 41) ?_;refine WL.o (some 42) ?_;refine oA 43 (.bool false) ?_;exact lW _ (J50 _ _ hF)
   cases t36 with
   |true=>
    replace hF:=zc3 hF
    refine oA 38 (.bool t27) ?_;refine oA 39 (.bool t27) ?_;exact lW _ (J47 _ _ hF)
   |false=>
    replace hF:=zc4 hF
    refine WL.o (some 38) ?_;refine oA 39 (.bool false) ?_;exact lW _ (J47 _ _ hF)
 cases t18 with
 |true=>
  replace hF:=zc3 hF
  refine WL.o (some 20) ?_;refine WL.o (some 21) ?_;refine oA 22 (.bool true) ?_;exact lW _ (J16 _ _ hF)
 |false=>
  replace hF:=zc4 hF
  refine oA 20 v15 ?_
  replace hF:=z3c hF;obtain⟨v21,h_68,e69,hF⟩:=hF
  replace hF:=z3 hF;obtain⟨t21,c70,hF⟩:=hF
  have c70:=z57 c70;subst c70;refine WL.b (some 21) (.bool t21) h_68 e69 ?_;refine oA 22 (.bool t21) ?_;exact lW _ (J16 _ _ hF)
noncomputable def worldF(n:Nat)(call:zc):zc:=z327 [(54,fn1 Dv (zab call n)),(96,fn2 Dv (Di .u8) (z46 call n)),(88,fn2 Dv (Di .u8) (z59 call n)),(92,fn2 Dv (Di .u8) (z63 call n)),(81,fn1 Dv (z5a call n)),(77,fn1 Dv (z52 call n)),(83,fn1 Dv (z47 call n)),(98,fn1 Dv (z34 call n)),(89,gcF (fn2 (Di .i64) (Di .i64) (zbd call n))),(36,gcF (fn1 Da (z12 call n))),(55,fn3 Dv Dv Dv (z9b call n)),(56,fn2 Dv (Di .i64) (z21 call n)),(74,fn2 Dv Dv (z6f call n)),(78,fn1 Dv (z29 call n)),(75,fn1 Dv (z1d call n)),(76,fn1 Dv (z26 call n)),(87,fn1 Dv (z33 call n)),(93,fn1 Dv (z1a call n)),(95,fn1 Dv (z18 call n)),(97,fn1 Dv (z35 call n)),(99,fn2 Dv Dv (z24 call n)),(100,fn1 Dv (z1c call n)),(91,fn3 Dv (Di .u8) (Di .u8) (z9e call n)),(86,gcF (fn1 (Di .u8) (z86 call n))),(85,gcF (fn0 (z87 call n))),(84,fn2 (Di .i64) Dv (zfd call n)),(82,fn1 Dv (z93 call n)),(25,gcF (fn1 Da (z1e7 call n))),(26,fn2 Dv Ds (zdc call n)),(65,fn1 Dv (zdd call n)),(41,fn1 Dv (z101 call n)),(40,fn1 Dv (z102 call n)),(39,fn2 Dv (Di .u8) (z100 call n)),(61,fn1 Dv (zff call n)),(62,fn2 Dv (Di .u64) (zbe call n)),(79,gcF (fn1 (Di .u64) (z2d call n))),(37,fn2 Dv Da (z19 call n)),(57,fn2 Dv Da (z81 call n)),(58,fn3 Dv Da Da (z71 call n)),(59,fn3 Dv (Di .u64) (Di .u64) (z70 call n)),(38,fn1 Dv (z103 call n)),(60,fn2 Dv (Di .u64) (zdb call n)),(14,fn2 Dv Ds (zf8 call n)),(29,fn1 Dv (zd0 call n)),(30,fn3 Dv (Di .u8) (Di .i64) (z143 call n)),(45,fn3 Dv (Di .u8) (Di .i64) (zbf call n)),(53,fn2 Dv (Di .i64) (zc0 call n)),(44,gcF (fn1 Da (zad call n))),(64,gcF (fn1 Da (zac call n))),(16,fn1 Dv (z177 call n)),(19,fn2 Dv Ds (z73 call n)),(34,fn2 Dv (Di .u8) (z72 call n)),(35,fn1 Dv (z64 call n)),(52,fn2 Dv (Di .i64) (z92 call n)),(21,fn1 Dv (ze5 call n)),(24,gcF (fn1 Ds (z144 call n))),(12,gcF (fn0 (zf9 call n)))]
set_option maxRecDepth 20000 in
theorem z47b(n:Nat)(call:zc)(hc:SaysAll Tryd.prog call):SaysAll Tryd.prog (worldF n call):=(zf (z28 Dv (z282 hc))
 (zf (z54 Dv (Di .u8) (z1a1 hc))
 (zf (z54 Dv (Di .u8) (z182 hc))
 (zf (z54 Dv (Di .u8) (z1a2 hc))
 (zf (z28 Dv (z183 hc))
 (zf (z28 Dv (z1b3 hc))
 (zf (z28 Dv (z1a3 hc))
 (zf (z28 Dv (z139 hc))
 (zf (zed (z54 (Di .i64) (Di .i64) (z252 hc)))
 (zf (zed (z28 Da (z2a7 hc)))
 (zf (z179 Dv Dv Dv (z253 hc))
 (zf (z54 Dv (Di .i64) (z1a0 hc))
 (zf (z54 Dv Dv (z1b2 hc))
 (zf (z28 Dv (z132 hc))
 (zf (z28 Dv (z154 hc))
 (zf (z28 Dv (z127 hc))
 (zf (z28 Dv (z138 hc))
 (zf (z28 Dv (z131 hc))
 (zf (z28 Dv (z1a4 hc))
 (zf (z28 Dv (z166 hc))
 (zf (z54 Dv Dv (z173 hc))
 (zf (z28 Dv (z13a hc))
 (zf (z179 Dv (Di .u8) (Di .u8) (z21d hc))
 (zf (zed (z28 (Di .u8) (z21b hc)))
 (zf (zed (z3a8 (z21c hc)))
 (zf (z54 (Di .i64) Dv (z2a6 hc))
 (zf (z28 Dv (z281 hc))
 (zf (zed (z28 Da (z4a2 hc)))
 (zf (z54 Dv Ds (z287 hc))
 (zf (z28 Dv (z288 hc))
 (zf (z28 Dv (z2b3 hc))
 (zf (z28 Dv (z2b4 hc))
 (zf (z54 Dv (Di .u8) (z2b2 hc))
 (zf (z28 Dv (z2b1 hc))
 (zf (z54 Dv (Di .u64) (z259 hc))
 (zf (zed (z28 (Di .u64) (z13d hc)))
 (zf (z54 Dv Da (z1e1 hc))
 (zf (z54 Dv Da (z1e0 hc))
 (zf (z179 Dv Da Da (z1ba hc))
 (zf (z179 Dv (Di .u64) (Di .u64) (z1b9 hc))
 (zf (z28 Dv (z2b5 hc))
 (zf (z54 Dv (Di .u64) (z286 hc))
 (zf (z54 Dv Ds (z2e9 hc))
 (zf (z28 Dv (z2b9 hc))
 (zf (z179 Dv (Di .u8) (Di .i64) (z348 hc))
 (zf (z179 Dv (Di .u8) (Di .i64) (z25c hc))
 (zf (z54 Dv (Di .i64) (z25d hc))
 (zf (zed (z28 Da (z284 hc)))
 (zf (zed (z28 Da (z283 hc)))
 (zf (z28 Dv (z391 hc))
 (zf (z54 Dv Ds (z1bd hc))
 (zf (z54 Dv (Di .u8) (z1bc hc))
 (zf (z28 Dv (z1a7 hc))
 (zf (z54 Dv (Di .i64) (z1fe hc))
 (zf (z28 Dv (z18b hc))
 (zf (zed (z28 Ds (z349 hc)))
 (zf (zed (z3a8 (z2ea hc)))
 z46b)))))))))))))))))))))))))))))))))))))))))))))))))))))))))
noncomputable def world(n d:Nat):zc:=iterW (worldF n) d
theorem world_ok(n d:Nat):SaysAll Tryd.prog (world n d):=z427 (z47b n) d
theorem z1ab(n d:Nat)(t0:AV)(h:AHeap):world n (d+1) 54 [t0] h=zab (world n d) n t0 h:=
 Eq.trans (b:=fn1 Dv (zab (world n d) n) [t0] h) (by kernel_rfl) (z99 Dv _ t0 h)
theorem z124(n d:Nat)(t0:AV)(t1:Int)(h:AHeap):world n (d+1) 96 [t0,.int .u8 t1] h=z46 (world n d) n t0 t1 h:=
 Eq.trans (b:=fn2 Dv (Di .u8) (z46 (world n d) n) [t0,.int .u8 t1] h) (by kernel_rfl) (z10f Dv (Di .u8) _ t0 t1 h)
theorem z19e(n d:Nat)(t0:AV)(t1:Int)(h:AHeap):world n (d+1) 88 [t0,.int .u8 t1] h=z59 (world n d) n t0 t1 h:=
 Eq.trans (b:=fn2 Dv (Di .u8) (z59 (world n d) n) [t0,.int .u8 t1] h) (by kernel_rfl) (z10f Dv (Di .u8) _ t0 t1 h)
theorem z1aa(n d:Nat)(t0:AV)(t1:Int)(h:AHeap):world n (d+1) 92 [t0,.int .u8 t1] h=z63 (world n d) n t0 t1 h:=
 Eq.trans (b:=fn2 Dv (Di .u8) (z63 (world n d) n) [t0,.int .u8 t1] h) (by kernel_rfl) (z10f Dv (Di .u8) _ t0 t1 h)
theorem z19f(n d:Nat)(t0:AV)(h:AHeap):world n (d+1) 81 [t0] h=z5a (world n d) n t0 h:=
 Eq.trans (b:=fn1 Dv (z5a (world n d) n) [t0] h) (by kernel_rfl) (z99 Dv _ t0 h)
theorem z134(n d:Nat)(t0:AV)(h:AHeap):world n (d+1) 77 [t0] h=z52 (world n d) n t0 h:=
 Eq.trans (b:=fn1 Dv (z52 (world n d) n) [t0] h) (by kernel_rfl) (z99 Dv _ t0 h)
theorem z125(n d:Nat)(t0:AV)(h:AHeap):world n (d+1) 83 [t0] h=z47 (world n d) n t0 h:=
 Eq.trans (b:=fn1 Dv (z47 (world n d) n) [t0] h) (by kernel_rfl) (z99 Dv _ t0 h)
theorem z147(n d:Nat)(t0:AV)(h:AHeap):world n (d+1) 98 [t0] h=z34 (world n d) n t0 h:=
 Eq.trans (b:=fn1 Dv (z34 (world n d) n) [t0] h) (by kernel_rfl) (z99 Dv _ t0 h)
theorem z27c(n d:Nat)(t0:Int)(t1:Int)(h:AHeap):world n (d+1) 89 [.int .i64 t0,.int .i64 t1] h=gcR h (zbd (world n d) n t0 t1 h):=
 Eq.trans (b:=gcR h (fn2 (Di .i64) (Di .i64) (zbd (world n d) n) [.int .i64 t0,.int .i64 t1] h)) (by kernel_rfl) (congrArg (gcR h) (z10f (Di .i64) (Di .i64) _ t0 t1 h))
theorem z32(n d:Nat)(t0:List AV)(h:AHeap):world n (d+1) 36 [.agg t0] h=gcR h (z12 (world n d) n t0 h):=
 Eq.trans (b:=gcR h (fn1 Da (z12 (world n d) n) [.agg t0] h)) (by kernel_rfl) (congrArg (gcR h) (z99 Da _ t0 h))
theorem z196(n d:Nat)(t0:AV)(t1:AV)(t2:AV)(h:AHeap):world n (d+1) 55 [t0,t1,t2] h=z9b (world n d) n t0 t1 t2 h:=
 Eq.trans (b:=fn3 Dv Dv Dv (z9b (world n d) n) [t0,t1,t2] h) (by kernel_rfl) (z319 Dv Dv Dv _ t0 t1 t2 h)
theorem z3a(n d:Nat)(t0:AV)(t1:Int)(h:AHeap):world n (d+1) 56 [t0,.int .i64 t1] h=z21 (world n d) n t0 t1 h:=
 Eq.trans (b:=fn2 Dv (Di .i64) (z21 (world n d) n) [t0,.int .i64 t1] h) (by kernel_rfl) (z10f Dv (Di .i64) _ t0 t1 h)
theorem z1db(n d:Nat)(t0:AV)(t1:AV)(h:AHeap):world n (d+1) 74 [t0,t1] h=z6f (world n d) n t0 t1 h:=
 Eq.trans (b:=fn2 Dv Dv (z6f (world n d) n) [t0,t1] h) (by kernel_rfl) (z10f Dv Dv _ t0 t1 h)
theorem zc5(n d:Nat)(t0:AV)(h:AHeap):world n (d+1) 78 [t0] h=z29 (world n d) n t0 h:=
 Eq.trans (b:=fn1 Dv (z29 (world n d) n) [t0] h) (by kernel_rfl) (z99 Dv _ t0 h)
theorem z31(n d:Nat)(t0:AV)(h:AHeap):world n (d+1) 75 [t0] h=z1d (world n d) n t0 h:=
 Eq.trans (b:=fn1 Dv (z1d (world n d) n) [t0] h) (by kernel_rfl) (z99 Dv _ t0 h)
theorem zb3(n d:Nat)(t0:AV)(h:AHeap):world n (d+1) 76 [t0] h=z26 (world n d) n t0 h:=
 Eq.trans (b:=fn1 Dv (z26 (world n d) n) [t0] h) (by kernel_rfl) (z99 Dv _ t0 h)
theorem z146(n d:Nat)(t0:AV)(h:AHeap):world n (d+1) 87 [t0] h=z33 (world n d) n t0 h:=
 Eq.trans (b:=fn1 Dv (z33 (world n d) n) [t0] h) (by kernel_rfl) (z99 Dv _ t0 h)
theorem z36(n d:Nat)(t0:AV)(h:AHeap):world n (d+1) 93 [t0] h=z1a (world n d) n t0 h:=
 Eq.trans (b:=fn1 Dv (z1a (world n d) n) [t0] h) (by kernel_rfl) (z99 Dv _ t0 h)
theorem z20(n d:Nat)(t0:AV)(h:AHeap):world n (d+1) 95 [t0] h=z18 (world n d) n t0 h:=
 Eq.trans (b:=fn1 Dv (z18 (world n d) n) [t0] h) (by kernel_rfl) (z99 Dv _ t0 h)
theorem zfc(n d:Nat)(t0:AV)(h:AHeap):world n (d+1) 97 [t0] h=z35 (world n d) n t0 h:=
 Eq.trans (b:=fn1 Dv (z35 (world n d) n) [t0] h) (by kernel_rfl) (z99 Dv _ t0 h)
theorem z4f(n d:Nat)(t0:AV)(t1:AV)(h:AHeap):world n (d+1) 99 [t0,t1] h=z24 (world n d) n t0 t1 h:=
 Eq.trans (b:=fn2 Dv Dv (z24 (world n d) n) [t0,t1] h) (by kernel_rfl) (z10f Dv Dv _ t0 t1 h)
theorem z3b(n d:Nat)(t0:AV)(h:AHeap):world n (d+1) 100 [t0] h=z1c (world n d) n t0 h:=
 Eq.trans (b:=fn1 Dv (z1c (world n d) n) [t0] h) (by kernel_rfl) (z99 Dv _ t0 h)
theorem z245(n d:Nat)(t0:AV)(t1:Int)(t2:Int)(h:AHeap):world n (d+1) 91 [t0,.int .u8 t1,.int .u8 t2] h=z9e (world n d) n t0 t1 t2 h:=
 Eq.trans (b:=fn3 Dv (Di .u8) (Di .u8) (z9e (world n d) n) [t0,.int .u8 t1,.int .u8 t2] h) (by kernel_rfl) (z319 Dv (Di .u8) (Di .u8) _ t0 t1 t2 h)
theorem z243(n d:Nat)(t0:Int)(h:AHeap):world n (d+1) 86 [.int .u8 t0] h=gcR h (z86 (world n d) n t0 h):=
 Eq.trans (b:=gcR h (fn1 (Di .u8) (z86 (world n d) n) [.int .u8 t0] h)) (by kernel_rfl) (congrArg (gcR h) (z99 (Di .u8) _ t0 h))
theorem z244(n d:Nat)(h:AHeap):world n (d+1) 85 [] h=gcR h (z87 (world n d) n h):=
 Eq.trans (b:=gcR h (fn0 (z87 (world n d) n) [] h)) (by kernel_rfl) (congrArg (gcR h) (fn0_eq _ h))
theorem z2df(n d:Nat)(t0:Int)(t1:AV)(h:AHeap):world n (d+1) 84 [.int .i64 t0,t1] h=zfd (world n d) n t0 t1 h:=
 Eq.trans (b:=fn2 (Di .i64) Dv (zfd (world n d) n) [.int .i64 t0,t1] h) (by kernel_rfl) (z10f (Di .i64) Dv _ t0 t1 h)
theorem z148(n d:Nat)(t0:AV)(h:AHeap):world n (d+1) 82 [t0] h=z93 (world n d) n t0 h:=
 Eq.trans (b:=fn1 Dv (z93 (world n d) n) [t0] h) (by kernel_rfl) (z99 Dv _ t0 h)
theorem z409(n d:Nat)(t0:List AV)(h:AHeap):world n (d+1) 25 [.agg t0] h=gcR h (z1e7 (world n d) n t0 h):=
 Eq.trans (b:=gcR h (fn1 Da (z1e7 (world n d) n) [.agg t0] h)) (by kernel_rfl) (congrArg (gcR h) (z99 Da _ t0 h))
theorem z298(n d:Nat)(t0:AV)(t1:Bytes)(h:AHeap):world n (d+1) 26 [t0,strA t1] h=zdc (world n d) n t0 t1 h:=
 Eq.trans (b:=fn2 Dv Ds (zdc (world n d) n) [t0,strA t1] h) (by kernel_rfl) (z10f Dv Ds _ t0 t1 h)
theorem z299(n d:Nat)(t0:AV)(h:AHeap):world n (d+1) 65 [t0] h=zdd (world n d) n t0 h:=
 Eq.trans (b:=fn1 Dv (zdd (world n d) n) [t0] h) (by kernel_rfl) (z99 Dv _ t0 h)
theorem z2e2(n d:Nat)(t0:AV)(h:AHeap):world n (d+1) 41 [t0] h=z101 (world n d) n t0 h:=
 Eq.trans (b:=fn1 Dv (z101 (world n d) n) [t0] h) (by kernel_rfl) (z99 Dv _ t0 h)
theorem z2e3(n d:Nat)(t0:AV)(h:AHeap):world n (d+1) 40 [t0] h=z102 (world n d) n t0 h:=
 Eq.trans (b:=fn1 Dv (z102 (world n d) n) [t0] h) (by kernel_rfl) (z99 Dv _ t0 h)
theorem z2e1(n d:Nat)(t0:AV)(t1:Int)(h:AHeap):world n (d+1) 39 [t0,.int .u8 t1] h=z100 (world n d) n t0 t1 h:=
 Eq.trans (b:=fn2 Dv (Di .u8) (z100 (world n d) n) [t0,.int .u8 t1] h) (by kernel_rfl) (z10f Dv (Di .u8) _ t0 t1 h)
theorem z2e0(n d:Nat)(t0:AV)(h:AHeap):world n (d+1) 61 [t0] h=zff (world n d) n t0 h:=
 Eq.trans (b:=fn1 Dv (zff (world n d) n) [t0] h) (by kernel_rfl) (z99 Dv _ t0 h)
theorem z27d(n d:Nat)(t0:AV)(t1:Int)(h:AHeap):world n (d+1) 62 [t0,.int .u64 t1] h=zbe (world n d) n t0 t1 h:=
 Eq.trans (b:=fn2 Dv (Di .u64) (zbe (world n d) n) [t0,.int .u64 t1] h) (by kernel_rfl) (z10f Dv (Di .u64) _ t0 t1 h)
theorem z149(n d:Nat)(t0:Int)(h:AHeap):world n (d+1) 79 [.int .u64 t0] h=gcR h (z2d (world n d) n t0 h):=
 Eq.trans (b:=gcR h (fn1 (Di .u64) (z2d (world n d) n) [.int .u64 t0] h)) (by kernel_rfl) (congrArg (gcR h) (z99 (Di .u64) _ t0 h))
theorem z1ee(n d:Nat)(t0:AV)(t1:List AV)(h:AHeap):world n (d+1) 37 [t0,.agg t1] h=z19 (world n d) n t0 t1 h:=
 Eq.trans (b:=fn2 Dv Da (z19 (world n d) n) [t0,.agg t1] h) (by kernel_rfl) (z10f Dv Da _ t0 t1 h)
theorem z1ed(n d:Nat)(t0:AV)(t1:List AV)(h:AHeap):world n (d+1) 57 [t0,.agg t1] h=z81 (world n d) n t0 t1 h:=
 Eq.trans (b:=fn2 Dv Da (z81 (world n d) n) [t0,.agg t1] h) (by kernel_rfl) (z10f Dv Da _ t0 t1 h)
theorem z1dd(n d:Nat)(t0:AV)(t1:List AV)(t2:List AV)(h:AHeap):world n (d+1) 58 [t0,.agg t1,.agg t2] h=z71 (world n d) n t0 t1 t2 h:=
 Eq.trans (b:=fn3 Dv Da Da (z71 (world n d) n) [t0,.agg t1,.agg t2] h) (by kernel_rfl) (z319 Dv Da Da _ t0 t1 t2 h)
theorem z1dc(n d:Nat)(t0:AV)(t1:Int)(t2:Int)(h:AHeap):world n (d+1) 59 [t0,.int .u64 t1,.int .u64 t2] h=z70 (world n d) n t0 t1 t2 h:=
 Eq.trans (b:=fn3 Dv (Di .u64) (Di .u64) (z70 (world n d) n) [t0,.int .u64 t1,.int .u64 t2] h) (by kernel_rfl) (z319 Dv (Di .u64) (Di .u64) _ t0 t1 t2 h)
theorem z2e4(n d:Nat)(t0:AV)(h:AHeap):world n (d+1) 38 [t0] h=z103 (world n d) n t0 h:=
 Eq.trans (b:=fn1 Dv (z103 (world n d) n) [t0] h) (by kernel_rfl) (z99 Dv _ t0 h)
theorem z297(n d:Nat)(t0:AV)(t1:Int)(h:AHeap):world n (d+1) 60 [t0,.int .u64 t1] h=zdb (world n d) n t0 t1 h:=
 Eq.trans (b:=fn2 Dv (Di .u64) (zdb (world n d) n) [t0,.int .u64 t1] h) (by kernel_rfl) (z10f Dv (Di .u64) _ t0 t1 h)
theorem z211(n d:Nat)(t0:AV)(t1:Bytes)(h:AHeap):world n (d+1) 14 [t0,strA t1] h=zf8 (world n d) n t0 t1 h:=
 Eq.trans (b:=fn2 Dv Ds (zf8 (world n d) n) [t0,strA t1] h) (by kernel_rfl) (z10f Dv Ds _ t0 t1 h)
theorem z1e3(n d:Nat)(t0:AV)(h:AHeap):world n (d+1) 29 [t0] h=zd0 (world n d) n t0 h:=
 Eq.trans (b:=fn1 Dv (zd0 (world n d) n) [t0] h) (by kernel_rfl) (z99 Dv _ t0 h)
theorem z369(n d:Nat)(t0:AV)(t1:Int)(t2:Int)(h:AHeap):world n (d+1) 30 [t0,.int .u8 t1,.int .i64 t2] h=z143 (world n d) n t0 t1 t2 h:=
 Eq.trans (b:=fn3 Dv (Di .u8) (Di .i64) (z143 (world n d) n) [t0,.int .u8 t1,.int .i64 t2] h) (by kernel_rfl) (z319 Dv (Di .u8) (Di .i64) _ t0 t1 t2 h)
theorem z27e(n d:Nat)(t0:AV)(t1:Int)(t2:Int)(h:AHeap):world n (d+1) 45 [t0,.int .u8 t1,.int .i64 t2] h=zbf (world n d) n t0 t1 t2 h:=
 Eq.trans (b:=fn3 Dv (Di .u8) (Di .i64) (zbf (world n d) n) [t0,.int .u8 t1,.int .i64 t2] h) (by kernel_rfl) (z319 Dv (Di .u8) (Di .i64) _ t0 t1 t2 h)
theorem z27f(n d:Nat)(t0:AV)(t1:Int)(h:AHeap):world n (d+1) 53 [t0,.int .i64 t1] h=zc0 (world n d) n t0 t1 h:=
 Eq.trans (b:=fn2 Dv (Di .i64) (zc0 (world n d) n) [t0,.int .i64 t1] h) (by kernel_rfl) (z10f Dv (Di .i64) _ t0 t1 h)
theorem z296(n d:Nat)(t0:List AV)(h:AHeap):world n (d+1) 44 [.agg t0] h=gcR h (zad (world n d) n t0 h):=
 Eq.trans (b:=gcR h (fn1 Da (zad (world n d) n) [.agg t0] h)) (by kernel_rfl) (congrArg (gcR h) (z99 Da _ t0 h))
theorem z295(n d:Nat)(t0:List AV)(h:AHeap):world n (d+1) 64 [.agg t0] h=gcR h (zac (world n d) n t0 h):=
 Eq.trans (b:=gcR h (fn1 Da (zac (world n d) n) [.agg t0] h)) (by kernel_rfl) (congrArg (gcR h) (z99 Da _ t0 h))
theorem z3c3(n d:Nat)(t0:AV)(h:AHeap):world n (d+1) 16 [t0] h=z177 (world n d) n t0 h:=
 Eq.trans (b:=fn1 Dv (z177 (world n d) n) [t0] h) (by kernel_rfl) (z99 Dv _ t0 h)
theorem z1df(n d:Nat)(t0:AV)(t1:Bytes)(h:AHeap):world n (d+1) 19 [t0,strA t1] h=z73 (world n d) n t0 t1 h:=
 Eq.trans (b:=fn2 Dv Ds (z73 (world n d) n) [t0,strA t1] h) (by kernel_rfl) (z10f Dv Ds _ t0 t1 h)
theorem z1de(n d:Nat)(t0:AV)(t1:Int)(h:AHeap):world n (d+1) 34 [t0,.int .u8 t1] h=z72 (world n d) n t0 t1 h:=
 Eq.trans (b:=fn2 Dv (Di .u8) (z72 (world n d) n) [t0,.int .u8 t1] h) (by kernel_rfl) (z10f Dv (Di .u8) _ t0 t1 h)
theorem z1ac(n d:Nat)(t0:AV)(h:AHeap):world n (d+1) 35 [t0] h=z64 (world n d) n t0 h:=
 Eq.trans (b:=fn1 Dv (z64 (world n d) n) [t0] h) (by kernel_rfl) (z99 Dv _ t0 h)
theorem z210(n d:Nat)(t0:AV)(t1:Int)(h:AHeap):world n (d+1) 52 [t0,.int .i64 t1] h=z92 (world n d) n t0 t1 h:=
 Eq.trans (b:=fn2 Dv (Di .i64) (z92 (world n d) n) [t0,.int .i64 t1] h) (by kernel_rfl) (z10f Dv (Di .i64) _ t0 t1 h)
theorem z36a(n d:Nat)(t0:Bytes)(h:AHeap):world n (d+1) 24 [strA t0] h=gcR h (z144 (world n d) n t0 h):=
 Eq.trans (b:=gcR h (fn1 Ds (z144 (world n d) n) [strA t0] h)) (by kernel_rfl) (congrArg (gcR h) (z99 Ds _ t0 h))
theorem z332(n d:Nat)(h:AHeap):world n (d+1) 12 [] h=gcR h (zf9 (world n d) n h):=
 Eq.trans (b:=gcR h (fn0 (zf9 (world n d) n) [] h)) (by kernel_rfl) (congrArg (gcR h) (fn0_eq _ h))
def at?(u:Bytes)(p:Nat):Option Nat:=(u[p]?).map UInt8.toNat
theorem at?_lt{u:Bytes}{p:Nat}(h:p<u.length):at? u p=some (u[p]).toNat:=by
 unfold at?
 rw[List.getElem?_eq_getElem h];rfl
theorem at?_ge{u:Bytes}{p:Nat}(h:u.length≤p):at? u p=none:=by
 unfold at?
 rw[List.getElem?_eq_none h];rfl
theorem at?_some{u:Bytes}{p c:Nat}(h:at? u p=some c):∃hp:p<u.length,(u[p]).toNat=c:=by
 by_cases hp:p<u.length
 ·rw [at?_lt hp] at h
  exact⟨hp,by simpa using h⟩
 ·rw [at?_ge (by omega)] at h
  cases h
theorem Wp.panK{Q:ARes→AHeap→Prop}{h:AHeap}{t:TypeId}{v:AV}(hq:Q (.panic (.ifc t v)) h):Wp (panK (.ifc t v) h) Q:=⟨_,_,rfl,hq⟩
noncomputable def rdP(u:Bytes)(p:Nat):List AV:=[strA u,.int .i64 (p:Int)]
abbrev Rd(h:AHeap)(b:Nat)(u:Bytes)(p:Nat):Prop:=RowH h b 112 (rdP u p)
def z27b(e:Int)(q:Nat):AV:=.ifc 131 (.agg [.int .i64 e,.int .i64 (q:Int)])
theorem bldWrong(e q:Int):z2d3 Tryd.prog 131 [(0,.agg [.int .i64 e,.int .i64 q])]=some [.int .i64 e,.int .i64 q]:=by kernel_rfl
def Step(b:Nat)(u:Bytes)(h:AHeap)(x:R):Except (Int×Nat) (AV×Nat)→Prop
 | .ok (v,p)=>∃h',x=some (.ret v,h')∧Rd h' b u p∧Tch [b] h h'
 | .error (e,q)=>∃h' p,x=some (.panic (z27b e q),h')∧Rd h' b u p∧Tch [b] h h'
section
variable {n d b p:Nat}{h:AHeap}{u:Bytes}{Q:ARes→AHeap→Prop}
theorem z16c(k:Rd h b u p):world n (d+1) 81 [.ptr b 0] h=some (.ret (.bool (decide (p=u.length))),h):=by
 apply Wp.eq;rw[z19f];unfold z5a;have ll:=z5b u
 repeat(first|(with_reducible refine Wp.lett ?_)|((with_reducible apply Wp.obind);first|(with_reducible first|exact z4 _ _|exact z6e _|exact z10 _ _|exact z8 _ _ _)|((with_reducible apply y5);(with_reducible assumption);rfl)))
 refine Wp.ret ⟨?_,rfl⟩
 by_cases hp:p=u.length
 ·rw[z66 (by omega),decide_eq_true hp]
 ·rw[z83 (by omega),decide_eq_false hp]
theorem z28e(e:Int)(q:Nat):world n (d+1) 89 [.int .i64 e,.int .i64 (q:Int)] h=some (.panic (z27b e q),h):=by
 rw[z27c];refine(congrArg (gcR h) ?_).trans gcR_self;unfold zbd;rw[bldWrong,z14c];rfl
theorem z1b1(k:Rd h b u (p+1))(hp:p+1≤u.length)(hu:u.length≤1000000):world n (d+2) 98 [.ptr b 0] h=some (.panic (z27b 6 p),h):=by
 apply Wp.eq;rw[z147];unfold z34;have k0:RowH h b 112 [strA u,.int .i64 ((p+1:Nat):Int)]:=k;clear k;have hr:=z28e (n:=n) (d:=d) (h:=h) 6 p;rw[show (p:Int)=((p+1:Nat):Int) - 1 by omega] at hr
 repeat(first|((with_reducible refine ye ?_ ?_ ?_);omega;omega)|((with_reducible apply Wp.obind);first|(with_reducible first|exact z4 _ _|exact z10 _ _|exact z8 _ _ _)|((with_reducible apply y5);(with_reducible assumption);rfl)))
 exact y18 hr ⟨rfl,rfl⟩
theorem z2a0(k:Rd h b u p)(hp:p≤u.length)(c:Nat):world n (d+2) 92 [.ptr b 0,.int .u8 (c:Int)] h=some (.ret (.bool (decide (at? u p=some c))),h):=by
 apply Wp.eq;rw[z1aa];unfold z63;have he:=z16c (n:=n) (d:=d) k
 by_cases hl:p=u.length
 ·rw [decide_eq_true hl] at he
  rw[at?_ge (by omega)]
  repeat(with_reducible first|refine y8 (fun _ _=>?_)|refine Wp.lett ?_|(apply Wp.obind;exact z5 _)|(refine y6 ?_ ?_;exact Bool.not_true)|(apply Wp.callN;assumption)|refine yd (by assumption) ?_)
  exact Wp.ret ⟨rfl,rfl⟩
 ·rw [decide_eq_false hl] at he
  have hx:=z231 (l:=u) (i:=p) (by omega);rw[at?_lt (by omega)]
  repeat(first|(with_reducible first|refine y8 (fun _ _=>?_)|refine Wp.lett ?_)|((with_reducible apply Wp.obind);first|(with_reducible first|exact hx|exact z4 _ _|exact z5 _|exact z6e _|exact z10 _ _|exact z8 _ _ _)|((with_reducible apply y5);(with_reducible assumption);rfl))|(with_reducible first|(refine y7 ?_ ?_;exact Bool.not_false)|(apply Wp.callN;assumption)|refine yd (by assumption) ?_))
  refine Wp.ret ⟨?_,rfl⟩
  by_cases hc:(u[p]'(by omega)).toNat=c
  ·rw[z66 (by omega),decide_eq_true (by rw[hc])]
  ·rw[z83 (by omega),decide_eq_false (fun hh=>hc (by simpa using hh))]
theorem z8f(k:Rd h b u p)(hb:b<h.next)(hp:p≤u.length)(hu:u.length≤1000000)(c:Nat):Step b u h (world n (d+3) 88 [.ptr b 0,.int .u8 (c:Int)] h) (.ok (.bool (decide (at? u p=some c)),if at? u p=some c then p+1 else p)):=by
 apply Wp.ex;rw[z19e];unfold z59;have hs:=z2a0 (n:=n) (d:=d) k hp c;have Mx:=Mem.one k hb
 by_cases hc:at? u p=some c
 ·rw [decide_eq_true hc] at hs ⊢
  rw[if_pos hc]
  repeat(first|(with_reducible apply Wp.obind;first|exact z4 _ _|exact z5 _|exact z10 _ _|exact z8 _ _ _)|((with_reducible apply y20 Mx);rfl)|((with_reducible apply y41 Mx);exact Nat.le_of_ble_eq_true rfl;rfl;clear Mx;intro _ Mx)|((with_reducible refine ye ?_ ?_ ?_);omega;omega)|(with_reducible first|refine Wp.lett ?_|(refine y6 ?_ ?_;exact Bool.not_true)|(apply Wp.callN;assumption)))
  have e:(rdP u p).set (0+1) (.int .i64 ((p:Int)+1))=rdP u (p+1):=by
   rw[show (p:Int)+1=((p+1:Nat):Int) by omega];rfl
  rw[e] at Mx;exact Wp.ret ⟨rfl,Mx.at0.1,Mx.tch⟩
 ·rw [decide_eq_false hc] at hs ⊢
  rw[if_neg hc]
  repeat(with_reducible first|refine Wp.lett ?_|(apply Wp.obind;exact z5 _)|(refine y7 ?_ ?_;exact Bool.not_false)|(apply Wp.callN;assumption))
  exact Wp.ret ⟨rfl,k,Tch.refl _ _⟩
theorem zaa(k:Rd h b u p)(hb:b<h.next)(hp:p≤u.length)(hu:u.length≤1000000):Step b u h (world n (d+2) 83 [.ptr b 0] h) (match at? u p with
  |some c=>.ok (.int .u8 (c:Int),p+1)
  |none=>.error (6,p)):=by
 have he:=z16c (n:=n) (d:=d) k
 by_cases hl:p=u.length
 ·rw [at?_ge (by omega)]
  rw[decide_eq_true hl] at he;refine⟨h,p,?_,k,Tch.refl _ _⟩;have hr:=z28e (n:=n) (d:=d) (h:=h) 6 p
  have:Wp (world n (d+2) 83 [.ptr b 0] h) fun r h'=>r=.panic (z27b 6 p)∧h'=h:=by
   rw[z125];unfold z47
   repeat(first|(with_reducible refine yf (fun _ _=>?_))|((with_reducible apply Wp.obind);first|(with_reducible first|exact z4 _ _|exact z5 _|exact z10 _ _|exact z8 _ _ _)|((with_reducible apply y5);(with_reducible assumption);rfl))|(with_reducible refine y7 ?_ ?_;rfl)|((with_reducible first|apply Wp.callN|apply Wp.callK);(with_reducible assumption)))
   exact y18 hr ⟨rfl,rfl⟩
  exact this.eq
 ·rw [decide_eq_false hl] at he
  rw[at?_lt (by omega)];show ∃h',_∧_;apply Wp.ex;rw[z125];unfold z47;have Mx:=Mem.one k hb;have hx:=z231 (l:=u) (i:=p) (by omega)
  repeat(first|(with_reducible apply Wp.obind;first|exact z4 _ _|exact z5 _|exact z6e _|exact z10 _ _|exact z8 _ _ _)|((with_reducible apply y20 Mx);rfl)|((with_reducible apply y41 Mx);exact Nat.le_of_ble_eq_true rfl;rfl;clear Mx;intro _ Mx)|(with_reducible refine yf (fun _ _=>?_))|((with_reducible refine ye ?_ ?_ ?_);omega;omega)|(with_reducible first|(refine y6 ?_ ?_;rfl)|(apply Wp.callN;assumption)|refine y26 (by assumption) ?_))
  have e:(rdP u p).set (0+1) (.int .i64 ((p:Int)+1))=rdP u (p+1):=by
   rw[show (p:Int)+1=((p+1:Nat):Int) by omega];rfl
  rw[e] at Mx;have e2:((p:Int)+1) - 1=(p:Int):=by omega
  rw[e2]
  repeat(((with_reducible apply Wp.obind);(with_reducible exact hx)))
  exact Wp.ret ⟨rfl,Mx.at0.1,Mx.tch⟩
end
def addW(w:List Nat)(c:Nat):List Nat:=w.set (c/64) (w.getD (c/64) 0|||2 ^ (c%64))
def z213(w:List Nat)(lo:Nat):Nat→List Nat
 |0=>w
 |m+1=>z213 (addW w lo) (lo+1) m
def z168(w:List Nat):List Nat:=w.map fun x=>x ^^^ 18446744073709551615
def z8e:List Nat:=[0,0,0,0]
structure WordsOk (w:List Nat):Prop where
 len:w.length=4
 small:∀x∈w,x<18446744073709551616
theorem WordsOk.get{w:List Nat}(k:WordsOk w)(i:Nat):w.getD i 0<18446744073709551616:=by
 rw[List.getD_eq_getElem?_getD];cases hx:w[i]? with
 |none=>decide
 |some x=>exact k.small x (List.mem_of_getElem? hx)
theorem z7c:WordsOk z8e:=⟨rfl,by decide⟩
theorem zc6{a b:Nat}(ha:a<18446744073709551616)(hb:b<18446744073709551616):a|||b<18446744073709551616:=by
 have:=Nat.or_lt_two_pow (n:=64) (x:=a) (y:=b) (by omega) (by omega);omega
theorem z172{k:Nat}(h:k<64):2 ^ k<18446744073709551616:=by
 have:=Nat.pow_lt_pow_right (a:=2) (by decide) h;omega
theorem addW_ok{w:List Nat}(k:WordsOk w)(c:Nat):WordsOk (addW w c):=by
 refine⟨by simp[addW,k.len],fun x hx=>?_⟩;unfold addW at hx
 rcases List.mem_or_eq_of_mem_set hx with hx|rfl
 ·exact k.small x hx
 ·exact zc6 (k.get _) (z172 (Nat.mod_lt _ (by decide)))
theorem z120:∀(m:Nat) {w:List Nat} (_:WordsOk w) (lo:Nat),WordsOk (z213 w lo m)
 |0,_,k,_=>k
 |m+1,_,k,lo=>z120 m (addW_ok k lo) (lo+1)
theorem z305{w:List Nat}(k:WordsOk w):WordsOk (z168 w):=by
 refine⟨by simp[z168,k.len],fun x hx=>?_⟩;unfold z168 at hx;obtain⟨y,hy,rfl⟩:=List.mem_map.1 hx;have:=Nat.xor_lt_two_pow (n:=64) (x:=y) (y:=18446744073709551615) (by have:=k.small y hy;omega) (by omega);omega
noncomputable def z1f(w:List Nat):List AV:=w.map fun (x:Nat)=>AV.int .u64 (x:Int)
theorem z58(w:List Nat):(z1f w).length=w.length:=by simp[z1f]
theorem z1c7(w:List Nat):(z1f w).all AV.one=true:=by
 simp only[z1f,List.all_map,List.all_eq_true];intro x _;rfl
inductive Nd where
 |mk (op:Nat) (w:List Nat) (kids:List Nd)
abbrev z22:Nat:=68
noncomputable def z8a(op:Nat)(w:List Nat)(kv:AV):List AV:=.int .i64 (op:Int)::(z1f w++[kv])
mutual
inductive NodeT:Nd→List AV→List zd7→Prop
 |mk {op:Nat} {w:List Nat} {kids:List Nd} {kc:List (List AV)} {kv:AV} {T0 T1:List zd7} (hw:WordsOk w) (g:GrowT z22 6 kc kv T0) (k:KidsT kids kc T1):NodeT (.mk op w kids) (z8a op w kv) (T0++T1)
inductive KidsT:List Nd→List (List AV)→List zd7→Prop
 |nil:KidsT [] [] []
 |cons {t:Nd} {c:List AV} {T:List zd7} {ts:List Nd} {cs:List (List AV)} {Ts:List zd7} (k:NodeT t c T) (ks:KidsT ts cs Ts):KidsT (t::ts) (c::cs) (T++Ts)
end
theorem y52{t:Nd}{c:List AV}{T:List zd7}(h:NodeT t c T):∀{ts:List Nd} {cs:List (List AV)} {Ts:List zd7},KidsT ts cs Ts→KidsT (ts++[t]) (cs++[c]) (Ts++T)
 |_,_,_,.nil=>by
  have:=KidsT.cons h .nil;rw[List.append_nil] at this;exact this
 |_,_,_,.cons k ks=>by
  have:=KidsT.cons k (y52 h ks);rw[←List.append_assoc] at this;exact this
theorem KidsT.len:∀{ts:List Nd} {cs:List (List AV)} {Ts:List zd7},KidsT ts cs Ts→cs.length=ts.length
 |_,_,_,.nil=>rfl
 |_,_,_,.cons _ ks=>by rw[List.length_cons,List.length_cons,ks.len]
theorem KidsT.one{t:Nd}{cs:List (List AV)}{Ts:List zd7}(h:KidsT [t] cs Ts):∃c,cs=[c]∧NodeT t c Ts:=by
 cases h with
 |cons k ks=>
  cases ks
  refine⟨_,rfl,?_⟩;rw[List.append_nil];exact k
theorem NodeT.len{t:Nd}{c:List AV}{T:List zd7}(h:NodeT t c T):c.length=6:=by
 cases h with
 |mk hw g k=>simp[z8a,z58,hw.len]
theorem NodeT.one{t:Nd}{c:List AV}{T:List zd7}(h:NodeT t c T):c.all AV.one=true:=by
 cases h with
 |mk hw g k=>
  simp only[z8a,List.all_cons,List.all_append,z1c7,g.one.1,List.all_nil,Bool.and_true];rfl
theorem y23(op:Nat){w:List Nat}(hw:WordsOk w):NodeT (.mk op w []) (z8a op w .nsl) []:=NodeT.mk (T0:=[]) (T1:=[]) hw (GrowT.nil _ _) .nil
def z3be(c:Nat):Nd:=.mk 2 (z213 z8e c 1) []
def anyW:List Nat:=z213 z8e 0 256
theorem z361:WordsOk anyW:=z120 256 z7c 0
theorem anyW_eq:z213 z8e 0 (255+1 - 0)=anyW:=rfl
attribute [irreducible] anyW
def anyN:Nd:=.mk 2 anyW []
def z385(op:Nat)(l:List Nd):Nd:=.mk op z8e l
def z203(op:Nat):List Nd→Nd
 |[]=>.mk 1 z8e []
 |[t]=>t
 |l=>z385 op l
def z2e8(u:Bytes)(i:Nat):Except Nat (Nat×Nat):=match at? u i with
 |none=>.error i
 | some c => if c = 92 then (match at? u (i + 1) with
   |none=>.error (i+1)
   |some e=>.ok (e,i+2))
  else if c=91∨c=93∨c=94∨c=45 then .error i else .ok (c,i+1)
def z10c(u:Bytes)(w:List Nat)(i:Nat):Except Nat (List Nat×Nat):=match z2e8 u i with
 | .error q=>.error q
 | .ok (c, j) => if at? u j = some 45 then (match z2e8 u (j + 1) with
   | .error q=>.error q
   | .ok (e,k)=>if e<c then .error (k - 1) else .ok (z213 w c (e+1 - c),k))
  else .ok (z213 w c 1,j)
inductive LoopP (u:Bytes):List Nat→Nat→Except Nat (List Nat×Nat)→Prop
 |done {w:List Nat} {j:Nat} (n:at? u j=some 93):LoopP u w j (.ok (w,j+1))
 |bad {w:List Nat} {j q:Nat} (n:at? u j≠some 93) (h:z10c u w j=.error q):LoopP u w j (.error q)
 |more {w w':List Nat} {j k:Nat} {r:Except Nat (List Nat×Nat)} (n:at? u j≠some 93) (h:z10c u w j=.ok (w',k)) (m:LoopP u w' k r):LoopP u w j r
def z488(u:Bytes)(i:Nat):Nat:=if at? u i=some 94 then i+1 else i
def z49d(u:Bytes)(i:Nat):Except Nat (List Nat×Nat)→Except Nat (List Nat×Nat)
 | .ok (w,j)=>.ok (if at? u i=some 94 then z168 w else w,j)
 | .error q=>.error q
inductive SetP (u:Bytes) (i:Nat):Except Nat (List Nat×Nat)→Prop
 |bad {q:Nat} (h:z10c u z8e (z488 u i)=.error q):SetP u i (.error q)
 |set {w:List Nat} {j:Nat} {r:Except Nat (List Nat×Nat)} (h:z10c u z8e (z488 u i)=.ok (w,j)) (m:LoopP u w j r):SetP u i (z49d u i r)
def z40f:Nat→Nat
 |42=>5
 |43=>6
 |63=>7
 |_=>0
def z1af(u:Bytes)(j:Nat):Nat:=match at? u j with
 |some c=>z40f c
 |none=>0
def z111(c:Nat):Prop:=c=124∨c=41∨c=42∨c=43∨c=63∨c=93
def z449(u:Bytes)(i:Nat):Prop:=at? u i=none∨at? u i=some 124∨at? u i=some 41
abbrev Res:=Except Nat (Nd×Nat)
mutual
inductive AltP (u:Bytes):List Nd→Nat→Res→Prop
 |bad {l:List Nd} {i q:Nat} (h:RowP u [] i (.error q)):AltP u l i (.error q)
 |last {l:List Nd} {i j:Nat} {t:Nd} (h:RowP u [] i (.ok (t,j))) (n:at? u j≠some 124):AltP u l i (.ok (z203 4 (l++[t]),j))
 |more {l:List Nd} {i j:Nat} {t:Nd} {r:Res} (h:RowP u [] i (.ok (t,j))) (n:at? u j=some 124) (m:AltP u (l++[t]) (j+1) r):AltP u l i r
inductive RowP (u:Bytes):List Nd→Nat→Res→Prop
 |stop {l:List Nd} {i:Nat} (s:z449 u i):RowP u l i (.ok (z203 3 l,i))
 |bad {l:List Nd} {i q:Nat} (s:¬z449 u i) (h:PartP u i (.error q)):RowP u l i (.error q)
 |more {l:List Nd} {i j:Nat} {t:Nd} {r:Res} (s:¬z449 u i) (h:PartP u i (.ok (t,j))) (m:RowP u (l++[t]) j r):RowP u l i r
inductive PartP (u:Bytes):Nat→Res→Prop
 |bad {i q:Nat} (h:AtomP u i (.error q)):PartP u i (.error q)
 |bare {i j:Nat} {t:Nd} (h:AtomP u i (.ok (t,j))) (n:z1af u j=0):PartP u i (.ok (t,j))
 |sign {i j:Nat} {t:Nd} (h:AtomP u i (.ok (t,j))) (n:z1af u j≠0):PartP u i (.ok (z385 (z1af u j) [t],j+1))
inductive AtomP (u:Bytes):Nat→Res→Prop
 |none {i:Nat} (h:at? u i=none):AtomP u i (.error i)
 |open_bad {i q:Nat} (h:at? u i=some 40) (m:AltP u [] (i+1) (.error q)):AtomP u i (.error q)
 |open_end {i j:Nat} {t:Nd} (h:at? u i=some 40) (m:AltP u [] (i+1) (.ok (t,j))) (n:at? u j≠some 41):AtomP u i (.error j)
 |group {i j:Nat} {t:Nd} (h:at? u i=some 40) (m:AltP u [] (i+1) (.ok (t,j))) (n:at? u j=some 41):AtomP u i (.ok (t,j+1))
 |any {i:Nat} (h:at? u i=some 46):AtomP u i (.ok (anyN,i+1))
 |set_bad {i q:Nat} (h:at? u i=some 91) (m:SetP u (i+1) (.error q)):AtomP u i (.error q)
 |set {i j:Nat} {w:List Nat} (h:at? u i=some 91) (m:SetP u (i+1) (.ok (w,j))):AtomP u i (.ok (.mk 2 w [],j))
 |sl_end {i:Nat} (h:at? u i=some 92) (n:at? u (i+1)=Option.none):AtomP u i (.error (i+1))
 |sl {i c:Nat} (h:at? u i=some 92) (n:at? u (i+1)=some c):AtomP u i (.ok (z3be c,i+2))
 |bad {i c:Nat} (h:at? u i=some c) (b:z111 c):AtomP u i (.error i)
 |one {i c:Nat} (h:at? u i=some c) (b:¬z111 c) (n:c≠40∧c≠46∧c≠91∧c≠92):AtomP u i (.ok (z3be c,i+1))
end
def StepN(b:Nat)(u:Bytes)(h:AHeap)(x:R):Res→Prop
 | .ok (t,p)=>∃c T h',x=some (.ret (.agg c),h')∧NodeT t c T∧Mem [b] h h' ((b,112,rdP u p)::T)
 | .error q=>∃h' p,x=some (.panic (z27b 6 q),h')∧Rd h' b u p∧Tch [b] h h'
theorem z14b{x y:Nat}(hx:x<18446744073709551616)(hy:y<18446744073709551616):orI .u64 (x:Int) (y:Int)=((x|||y:Nat):Int):=by
 have e:(BitVec.ofInt 64 (x:Int)|||BitVec.ofInt 64 (y:Int)).toNat=x|||y:=by
  rw[BitVec.toNat_or,BitVec.toNat_ofInt,BitVec.toNat_ofInt]
  congr 1<;>omega
 unfold orI;show IntKind.u64.wrap (((BitVec.ofInt 64 (x:Int)|||BitVec.ofInt 64 (y:Int)).toNat:Nat):Int)=_;rw[e,z80];have:=zc6 hx hy;omega
theorem xorI_nat{x y:Nat}(hx:x<18446744073709551616)(hy:y<18446744073709551616):xorI .u64 (x:Int) (y:Int)=((x ^^^ y:Nat):Int):=by
 have e:(BitVec.ofInt 64 (x:Int) ^^^ BitVec.ofInt 64 (y:Int)).toNat=x ^^^ y:=by
  rw[BitVec.toNat_xor,BitVec.toNat_ofInt,BitVec.toNat_ofInt]
  congr 1<;>omega
 unfold xorI;show IntKind.u64.wrap (((BitVec.ofInt 64 (x:Int) ^^^ BitVec.ofInt 64 (y:Int)).toNat:Nat):Int)=_;rw[e,z80];have:=Nat.xor_lt_two_pow (n:=64) (x:=x) (y:=y) (by omega) (by omega);omega
theorem z338{k:Nat}(h:k<64):shlI .u64 1 (k:Int)=some ((2 ^ k:Nat):Int):=by
 unfold shlI;rw[if_neg (by omega)]
 have e:min ((k:Int).toNat) IntKind.u64.bits=k:=by
  show min ((k:Int).toNat) 64=k;omega
 rw[e,z80,Int.one_mul];have:=z172 h;have e2:((2:Int) ^ k)=((2 ^ k:Nat):Int):=by push_cast;rfl
 rw[e2]
 generalize 2 ^ k=z at this
 congr 1
 omega
theorem z492{c:Nat}(h:c<1000):quoI .i64 (c:Int) 64=some ((c/64:Nat):Int):=by
 unfold quoI;rw[if_neg (by decide),Int.tdiv_eq_ediv_of_nonneg (by omega),z330 (by omega) (by omega)]
 congr 1
theorem z48d{c:Nat}:remI .i64 (c:Int) 64=some ((c%64:Nat):Int):=by
 unfold remI;rw[if_neg (by decide),Int.tmod_eq_emod_of_nonneg (by omega)]
 congr 1
theorem z15f{n b o i:Nat}(h:i<n):z313 n 1 (.ptr b o) (i:Int)=some (.ptr b (o+i)):=by
 have e:Nat.blt i n=true:=by simpa using h
 show (match Nat.blt i n with|true=>some (AV.ptr b (o+i*1))|false=>none)=_;rw[e,Nat.mul_one]
section
variable {n d b o p:Nat}{h:AHeap}{u:Bytes}{Q:ARes→AHeap→Prop}{pre post:List AV}{w:List Nat}{e:TypeId}
theorem z233{i:Nat}(hi:i<w.length):(pre++(z1f w++post))[pre.length+i]? =some (.int .u64 (w.getD i 0:Int)):=by
 rw[List.getElem?_append_right (by omega),show pre.length+i - pre.length=i by omega,List.getElem?_append_left (by rw[z58];exact hi)];unfold z1f;rw[List.getElem?_map,List.getD_eq_getElem?_getD,List.getElem?_eq_getElem hi];rfl
theorem z29f{i x:Nat}(hi:i<w.length):(pre++(z1f w++post)).set (pre.length+i) (.int .u64 (x:Int))=pre++(z1f (w.set i x)++post):=by
 rw[List.set_append_right _ _ (by omega),show pre.length+i - pre.length=i by omega,List.set_append_left _ _ (by rw[z58];exact hi)];unfold z1f;rw[List.map_set]
theorem z375{k4:AHeap→R}(hpre:pre.length=o):∀(m f lo:Nat) (w:List Nat) (H:AHeap),m<f→lo+m≤256→WordsOk w→RowH H b e (pre++(z1f w++post))→
   (∀H',RowH H' b e (pre++(z1f (z213 w lo m)++post))→Tch [b] H H'→Wp (k4 H') Q)→Wp (z94 (.ptr b o) ((lo+m:Nat) - 1:Int) k4 f (lo:Int) H) Q
 |_,0,_,_,_,hf,_,_,_,_=>by omega
 |0,f+1,lo,w,H,hf,hm,hw,k,hk=>by
  rw[ze3];unfold z88
  repeat(first|((with_reducible refine ye ?_ ?_ ?_);omega;omega)|(with_reducible refine Wp.lett ?_)|((with_reducible refine y6 ?_ ?_;apply decide_eq_false);omega))
  exact hk H k (Tch.refl _ _)
 |m+1,f+1,lo,w,H,hf,hm,hw,k,hk=>by
  rw[ze3];unfold z88;have hi:lo/64<4:=by omega
  have hl:lo/64<w.length:=by rw[hw.len];exact hi
  have hc:=z233 (pre:=pre) (post:=post) hl;have e1:=z492 (c:=lo) (by omega);have e2:=z15f (b:=b) (o:=o) hi;have e3:=z48d (c:=lo);have e4:=z338 (k:=lo%64) (Nat.mod_lt _ (by decide));rw[hpre] at hc;have e5:=y5 k hc
  repeat(first|((with_reducible refine ye ?_ ?_ ?_);omega;omega)|(with_reducible first|refine Wp.lett ?_|(apply Wp.obind;first|exact e1|exact e2|exact e3|exact e4|exact e5|exact z4 _ _|exact z10 _ _))|((with_reducible refine y7 ?_ ?_;apply decide_eq_true);omega))
  rw[z14b (hw.get _) (z172 (Nat.mod_lt _ (by decide)))];refine Wp.st1 k (by simp[z58];omega) rfl fun h' k' t' _=>?_;rw[←hpre,z29f hl] at k'
  repeat(((with_reducible refine ye ?_ ?_ ?_);omega;omega))
  have eh:((lo+(m+1):Nat) - 1:Int)=((lo+1+m:Nat) - 1:Int):=by omega
  have el:(lo:Int)+1=((lo+1:Nat):Int):=by omega
  rw[eh,el];exact z375 hpre m f (lo+1) (addW w lo) h' (by omega) (by omega) (addW_ok hw lo) k' fun H' k2 t2=>hk H' k2 (t'.trans t2)
theorem z2db(hpre:pre.length=o)(hn:300<n){lo hi:Nat}(h1:lo≤hi)(h2:hi<256)(hw:WordsOk w)(k:RowH h b e (pre++(z1f w++post))):∃h',world n (d+1) 91 [.ptr b o,.int .u8 (lo:Int),.int .u8 (hi:Int)] h=some (.ret (.tup []),h')∧RowH h' b e (pre++(z1f (z213 w lo (hi+1 - lo))++post))∧Tch [b] h h':=by
 apply Wp.ex;rw[z245];unfold z9e
 (((with_reducible refine ye ?_ ?_ ?_);omega;omega))
 ((with_reducible refine yf (fun _ _=>?_)))
 rename_i k4 ek4;have eh:(hi:Int)=((lo+(hi+1 - lo):Nat) - 1:Int):=by omega
 rw[eh];refine z375 hpre (hi+1 - lo) n lo w h (by omega) (by omega) hw k fun H' k2 t2=>?_
 repeat((with_reducible refine y26 (by assumption) ?_))
 exact Wp.ret ⟨rfl,k2,t2⟩
end
theorem Step.ok_of{b p:Nat}{u:Bytes}{h:AHeap}{x:R}{v:AV}(k:Wp x fun r h'=>r=.ret v∧Rd h' b u p∧Tch [b] h h'):Step b u h x (.ok (v,p)):=k.ex
theorem Step.err_of{b q:Nat}{e:Int}{u:Bytes}{h:AHeap}{x:R}(k:Wp x fun r h'=>r=.panic (z27b e q)∧∃p,Rd h' b u p∧Tch [b] h h'):Step b u h x (.error (e,q)):=by
 obtain⟨_,h',e1,rfl,p,k1,k2⟩:=k;exact⟨h',p,e1,k1,k2⟩
theorem y29{b:Nat}{u:Bytes}{h:AHeap}{x:R}{k:AV→AHeap→R}{Q:ARes→AHeap→Prop}{v:AV}{p:Nat}(hx:Step b u h x (.ok (v,p)))(hk:∀h',Rd h' b u p→Tch [b] h h'→Wp (k v h') Q):Wp (callK x k) Q:=by
 obtain⟨h',e,k1,k2⟩:=hx;exact Wp.callK e (hk h' k1 k2)
theorem y28{b:Nat}{u:Bytes}{h:AHeap}{x:R}{k:AV→AHeap→R}{Q:ARes→AHeap→Prop}{v:AV}{p:Nat}(hx:Step b u h x (.ok (v,p)))(hk:∀h',Rd h' b u p→Tch [b] h h'→Wp (k v h') Q):Wp (callN x k) Q:=by
 obtain⟨h',e,k1,k2⟩:=hx;exact Wp.callN e (hk h' k1 k2)
theorem y44{b q:Nat}{e:Int}{u:Bytes}{h:AHeap}{x:R}{k:AV→AHeap→R}{Q:ARes→AHeap→Prop}(hx:Step b u h x (.error (e,q)))(hk:∀h' p,Rd h' b u p→Tch [b] h h'→Q (.panic (z27b e q)) h'):Wp (callK x k) Q:=by
 obtain⟨h',p,e1,k1,k2⟩:=hx;exact y18 e1 (hk h' p k1 k2)
theorem z22c{S:List Nat}{h h':AHeap}{b:Nat}(t:Tch S h h')(hb:b<h.next):b<h'.next:=Nat.lt_of_lt_of_le hb t.1
open Go.RowKit Abs
section
variable {n d b p:Nat}{h:AHeap}{u:Bytes}{Q:ARes→AHeap→Prop}
theorem take_r(k:Rd h b u p)(hb:b<h.next)(hp:p≤u.length)(hu:u.length≤1000000)(c:Nat):Step b u h (world n (d+4) 96 [.ptr b 0,.int .u8 (c:Int)] h) (if at? u p=some c then .ok (.tup [],p+1) else .error (6,p)):=by
 have hs:=z8f (n:=n) (d:=d) k hb hp hu c
 by_cases hc:at? u p=some c
 ·rw [if_pos hc, decide_eq_true hc] at hs
  rw[if_pos hc];refine Step.ok_of ?_;rw[z124];unfold z46;refine y28 hs fun h' k1 k2=>?_
  repeat(with_reducible first|refine yf (fun _ _=>?_)|refine Wp.lett ?_|(apply Wp.obind;exact z5 _)|(refine y6 ?_ ?_;exact Bool.not_true)|refine y26 (by assumption) ?_)
  exact Wp.ret ⟨rfl,k1,k2⟩
 ·rw [if_neg hc, decide_eq_false hc] at hs
  rw[if_neg hc];refine Step.err_of ?_;rw[z124];unfold z46;refine y28 hs fun h' k1 k2=>?_;have hr:=z28e (n:=n) (d:=d+2) (h:=h') 6 p
  repeat(first|(with_reducible first|refine yf (fun _ _=>?_)|refine Wp.lett ?_)|((with_reducible apply Wp.obind);first|(with_reducible first|exact z4 _ _|exact z5 _|exact z10 _ _|exact z8 _ _ _)|((with_reducible apply y5);(with_reducible assumption);rfl))|(with_reducible refine y7 ?_ ?_;exact Bool.not_false))
  exact y18 hr ⟨rfl,p,k1,k2⟩
end
abbrev z32d:Nat:=66
theorem z294:∀(w:List Nat),y35 (z1f w++[.nsl])=true
 |[]=>rfl
 |_::w=>z294 w
theorem z30a(op:Nat)(w:List Nat):(AV.agg (z8a op w .nsl)).scal=true:=z294 w
theorem bldOver0(op:Int):z2d3 Tryd.prog z22 [(0,.int .i64 op),(2,.nsl)]=some [.int .i64 op,.int .u64 0,.int .u64 0,.int .u64 0,.int .u64 0,.nsl]:=by kernel_rfl
theorem bldOver1(op:Int)(c m:Nat):z2d3 Tryd.prog z22 [(0,.int .i64 op),(2,.sl c 0 m 6)]=some [.int .i64 op,.int .u64 0,.int .u64 0,.int .u64 0,.int .u64 0,.sl c 0 m 6]:=by kernel_rfl
theorem bldSet(a b c d:Int):z2d3 Tryd.prog z22 [(0,.int .i64 2),(1,.agg [.int .u64 a,.int .u64 b,.int .u64 c,.int .u64 d])]=some [.int .i64 2,.int .u64 a,.int .u64 b,.int .u64 c,.int .u64 d,.nsl]:=by kernel_rfl
theorem bldNode(h:AHeap)(op a b c d:Int)(kv:AV):z16e Tryd.prog h z32d 1 [(0,.agg [.int .i64 op,.int .u64 a,.int .u64 b,.int .u64 c,.int .u64 d,kv])]=zcb h z22 [.int .i64 op,.int .u64 a,.int .u64 b,.int .u64 c,.int .u64 d,kv] 1 6:=by kernel_rfl
theorem z408{w:List Nat}(k:WordsOk w):∃a b c d,w=[a,b,c,d]:=by
 match w,k.len with
 |[a,b,c,d],_=>exact⟨a,b,c,d,rfl⟩
theorem NodeT.bld{t:Nd}{c:List AV}{T:List zd7}(k:NodeT t c T)(h:AHeap):z16e Tryd.prog h z32d 1 [(0,.agg c)]=zcb h z22 c 1 6:=by
 cases k with
 |mk hw g ks=>
  obtain⟨a,b,c,d,rfl⟩:=z408 hw;exact bldNode h _ _ _ _ _ _
theorem setBld{w:List Nat}(k:WordsOk w):z2d3 Tryd.prog z22 [(0,.int .i64 2),(1,.agg (z1f w))]=some (z8a 2 w .nsl):=by
 obtain⟨a,b,c,d,rfl⟩:=z408 k;exact bldSet _ _ _ _
section
variable {n d b p:Nat}{h h0:AHeap}{u:Bytes}{Q:ARes→AHeap→Prop}{S:List Nat}{xs T T0 T1:List zd7}{kc:List (List AV)}{kv:AV}{l:List Nd}
theorem overBld(g:GrowT z22 6 kc kv T)(op:Nat):z2d3 Tryd.prog z22 [(0,.int .i64 (op:Int)),(2,kv)]=some (z8a op z8e kv):=by
 rcases g.2 with⟨_,rfl,_⟩|⟨_,c,rfl,_⟩
 ·exact bldOver0 _
 ·exact bldOver1 _ _ _
theorem z1b8{op:Nat}{w:List Nat}(hw:WordsOk w):(z8a op w kv).length=6:=by simp[z8a,z58,hw.len]
theorem za0{op:Nat}{w:List Nat}(hk:kv.one=true):(z8a op w kv).all AV.one=true:=by
 simp only[z8a,List.all_cons,List.all_append,z1c7,hk,List.all_nil,Bool.and_true];rfl
theorem z1b7(hn:300<n){c:Nat}(hc:c<256):world n (d+2) 86 [.int .u8 (c:Int)] h=some (.ret (.agg (z8a 2 (z213 z8e c 1) .nsl)),h):=by
 apply Wp.eq;rw[z243];refine y3c ?_
 suffices hK:Wp (z86 (world n (d+1)) n c h) fun r h'=>r=.ret (.agg (z8a 2 (z213 z8e c 1) .nsl))∧Tch [] h h' from hK.mono fun r h' ⟨e,t⟩=>⟨t.above,by rw[e];exact z30a _ _,e,rfl⟩
 unfold z86;have Mx:=Mem.nil [] h
 repeat(first|((with_reducible apply y10 Mx);rfl;rfl;(rfl);clear Mx;intro _ Mx)|((with_reducible apply y9 Mx);clear Mx;intro _ Mx)|rw[ze])
 have k0:RowH _ _ _ ([AV.int .i64 2]++(z1f z8e++[.nsl])):=Mx.at0.1;obtain⟨h5,e5,k5,t5⟩:=z2db (n:=n) (d:=d) rfl hn (Nat.le_refl c) hc z7c k0;refine Wp.callN e5 ?_;have Mz:=y17 (xs:=[]) Mx t5 k5;clear Mx;have Mx:=Mz;clear Mz k0 k5;rw[show c+1 - c=1 by omega] at Mx;have ho:=za0 (kv:=.nsl) (op:=2) (w:=z213 z8e c 1) rfl;have hl:([AV.int .i64 2]++(z1f (z213 z8e c 1)++[AV.nsl])).length=6:=z1b8 (op:=2) (z120 1 z7c c);refine y15 Mx hl ?_;refine y24 Mx hl rfl ho fun h6 Mz=>?_;refine y1f Mz hl ?_;exact Wp.ret ⟨rfl,Mz.tch⟩
theorem z2d9(hn:300<n):world n (d+2) 85 [] h=some (.ret (.agg (z8a 2 (anyW) .nsl)),h):=by
 apply Wp.eq;rw[z244];refine y3c ?_
 suffices hK:Wp (z87 (world n (d+1)) n h) fun r h'=>r=.ret (.agg (z8a 2 (anyW) .nsl))∧Tch [] h h' from hK.mono fun r h' ⟨e,t⟩=>⟨t.above,by rw[e];exact z30a _ _,e,rfl⟩
 unfold z87;have Mx:=Mem.nil [] h
 repeat(first|((with_reducible apply y10 Mx);rfl;rfl;(rfl);clear Mx;intro _ Mx)|((with_reducible apply y9 Mx);clear Mx;intro _ Mx)|rw[ze])
 have k0:RowH _ _ _ ([AV.int .i64 2]++(z1f z8e++[.nsl])):=Mx.at0.1;obtain⟨h5,e5,k5,t5⟩:=z2db (n:=n) (d:=d) (lo:=0) (hi:=255) rfl hn (by omega) (by omega) z7c k0;refine Wp.callN e5 ?_;have Mz:=y17 (xs:=[]) Mx t5 k5;clear Mx;have Mx:=Mz;clear Mz k0 k5;rw[anyW_eq] at Mx;have ho:=za0 (kv:=.nsl) (op:=2) (w:=anyW) rfl;have hl:([AV.int .i64 2]++(z1f (anyW)++[AV.nsl])).length=6:=z1b8 (op:=2) z361;refine y15 Mx hl ?_;refine y24 Mx hl rfl ho fun h6 Mz=>?_;refine y1f Mz hl ?_;exact Wp.ret ⟨rfl,Mz.tch⟩
theorem z41a(g:GrowT z22 6 kc kv T)(op:Nat):∃h',world n (d+1) 84 [.int .i64 (op:Int),kv] h=some (.ret (.agg (z8a op z8e kv)),h')∧Tch [] h h':=by
 apply Wp.ex;rw[z2df];unfold zfd;have Mx:=Mem.nil [] h;have hl:=z1b8 (kv:=kv) (op:=op) z7c;have ho:=za0 (op:=op) (w:=z8e) g.one.1;have hb:=overBld g op
 repeat(first|((with_reducible apply y15 Mx);rfl)|((with_reducible apply y10 Mx);rfl;rfl;((with_reducible assumption));clear Mx;intro _ Mx)|((with_reducible apply y9 Mx);clear Mx;intro _ Mx)|(with_reducible apply Wp.obind;exact hb)|rw[ze])
 exact Wp.ret ⟨rfl,Mx.tch⟩
theorem z25b(M:Mem S h0 h (xs++(T0++T1))):Mem S h0 h (xs++T1):=Mem.drop (xs:=T0) (M.perm (List.perm_append_comm_assoc T0 xs T1))
theorem idx0(c m:Nat):z1a8 6 (.sl c 0 (m+1) 6) 0=some (.ptr c 0):=by
 have:=idxP_sl (sz:=6) (b:=c) (o:=0) (n:=m+1) (k:=6) (i:=0) (by omega)
 simpa using this
theorem z2c4{c:List AV}(g:GrowT z22 6 [c] kv T0):∃q,kv=.sl q 0 1 6∧T0=[(q,z22,c)]:=by
 rcases g.2 with⟨hh,_⟩|⟨_,q,rfl,rfl⟩
 ·cases hh
 ·exact⟨q,rfl,by simp⟩
theorem inRow_r(Mx:Mem S h0 h (xs++(T0++T1)))(g:GrowT z22 6 kc kv T0)(k:KidsT l kc T1):∃c T h',world n (d+2) 82 [kv] h=some (.ret (.agg c),h')∧NodeT (z203 3 l) c T∧Mem S h0 h' (xs++T):=by
 have hkl:=k.len
 match l,k,hkl with
 |[],k,hkl=>
  cases k
  rcases g.2 with⟨_,rfl,rfl⟩|⟨hh,_⟩
  ·refine ⟨z8a 1 z8e .nsl, [], ?_⟩
   suffices hK:∃h',world n (d+2) 82 [.nsl] h=some (.ret (.agg (z8a 1 z8e .nsl)),h')∧Mem S h0 h' (xs++([]++[])) by
    obtain⟨h',e,M'⟩:=hK;exact⟨h',e,y23 1 z7c,M'⟩
   apply Wp.ex;rw[z148];unfold z93;have hlen:z17d .nsl=some 0:=rfl
   repeat(first|((with_reducible apply y15 Mx);rfl)|((with_reducible apply y10 Mx);rfl;rfl;(rfl);clear Mx;intro _ Mx)|((with_reducible apply y9 Mx);clear Mx;intro _ Mx)|(with_reducible first|refine Wp.lett ?_|(apply Wp.obind;exact hlen))|((with_reducible refine y7 ?_ ?_;apply z66);omega)|rw[ze])
   exact Wp.ret ⟨rfl,Mx.pop⟩
  ·exact absurd rfl hh
 |[t],k,hkl=>
  obtain⟨c,rfl,kt⟩:=k.one;obtain⟨q,rfl,rfl⟩:=z2c4 g;refine⟨c,T1,?_⟩
  suffices hK:∃h',world n (d+2) 82 [.sl q 0 1 6] h=some (.ret (.agg c),h')∧Mem S h0 h' (xs++([(q,z22,c)]++T1)) by
   obtain⟨h',e,M'⟩:=hK;exact⟨h',e,kt,z25b M'⟩
  apply Wp.ex;rw[z148];unfold z93;have hlen:z17d (.sl q 0 1 6)=some 1:=rfl;have ei:z1a8 6 (.sl q 0 1 6) 0=some (.ptr q 0):=idx0 q 0
  repeat(first|((with_reducible apply y9 Mx);clear Mx;intro _ Mx)|(with_reducible first|refine Wp.lett ?_|(apply Wp.obind;first|exact hlen|exact ei))|((with_reducible refine y7 ?_ ?_;apply z66);omega)|((with_reducible refine y6 ?_ ?_;apply z83);omega)|rw[ze])
  refine Wp.obind (y12 (Mem.at (xs:=_::xs) Mx).1 kt.len) ?_;refine y10 Mx kt.len rfl kt.one fun h6 Mz=>?_;refine y15 Mz kt.len ?_;exact Wp.ret ⟨rfl,Mz.pop⟩
 |t::t'::ts,k,hkl=>
  refine⟨z8a 3 z8e kv,T0++T1,?_⟩
  suffices hK:∃h',world n (d+2) 82 [kv] h=some (.ret (.agg (z8a 3 z8e kv)),h')∧Mem S h0 h' (xs++(T0++T1)) by
   obtain⟨h',e,M'⟩:=hK;exact⟨h',e,NodeT.mk z7c g k,M'⟩
  apply Wp.ex;rw[z148];unfold z93;have hlen:=g.len;simp only[List.length_cons] at hkl;have hl:=z1b8 (kv:=kv) (op:=3) z7c;have ho:=za0 (op:=3) (w:=z8e) g.one.1
  repeat(first|((with_reducible refine Wp.mcall (z41a (n:=n) (d:=d) g 3) Mx (fun _ Mz _=>?_));clear Mx;have Mx:=Mz;clear Mz)|((with_reducible apply y15 Mx);rfl)|((with_reducible apply y10 Mx);rfl;rfl;((with_reducible assumption));clear Mx;intro _ Mx)|((with_reducible apply y9 Mx);clear Mx;intro _ Mx)|(with_reducible first|refine Wp.lett ?_|(apply Wp.obind;first|exact hlen|exact z11 _))|((with_reducible refine y6 ?_ ?_;apply z83);omega)|rw[ze])
  exact Wp.ret ⟨rfl,Mx.pop⟩
end
abbrev TRd:Nat:=112
abbrev z446:Nat:=65
def byteR:Except Nat (Nat×Nat)→Except (Int×Nat) (AV×Nat)
 | .ok (c,j)=>.ok (.int .u8 (c:Int),j)
 | .error q=>.error (6,q)
noncomputable def setR:Except Nat (List Nat×Nat)→Except (Int×Nat) (AV×Nat)
 | .ok (w,j)=>.ok (.agg (z1f w),j)
 | .error q=>.error (6,q)
section
variable {n d b p q i:Nat}{h h0:AHeap}{u:Bytes}{Q:ARes→AHeap→Prop}{S:List Nat}{xs:List zd7}{w:List Nat}
theorem at?_256{c:Nat}(h:at? u i=some c):c<256:=by
 obtain⟨hp,rfl⟩:=at?_some h;exact UInt8.toNat_lt _
theorem z18a{c j:Nat}(h:z2e8 u i=.ok (c,j)):c<256∧i<j∧j≤u.length:=by
 unfold z2e8 at h
 split at h
 ·cases h
 ·rename_i c' hc
  obtain⟨hp,_⟩:=at?_some hc
  split at h
  ·split at h
   ·cases h
   ·rename_i e he
    obtain⟨hp2,_⟩:=at?_some he;cases h;exact⟨at?_256 he,by omega,by omega⟩
  ·split at h
   ·cases h
   ·cases h
    exact⟨at?_256 hc,by omega,by omega⟩
theorem z390{q:Nat}(hi:i≤u.length)(h:z2e8 u i=.error q):q≤u.length:=by
 unfold z2e8 at h
 split at h
 ·cases h
  exact hi
 ·rename_i c' hc
  obtain⟨hp,_⟩:=at?_some hc
  split at h
  ·split at h
   ·cases h
    omega
   ·cases h
  ·split at h
   ·cases h
    omega
   ·cases h
theorem z30d{w':List Nat}{j:Nat}(hw:WordsOk w)(h:z10c u w i=.ok (w',j)):WordsOk w'∧i<j∧j≤u.length:=by
 unfold z10c at h
 split at h
 ·cases h
 ·rename_i c j' h1
  obtain⟨_,h2,h3⟩:=z18a h1
  split at h
  ·split at h
   ·cases h
   ·rename_i e k h4
    obtain⟨_,h5,h6⟩:=z18a h4
    split at h
    ·cases h
    ·cases h
     exact⟨z120 _ hw _,by omega,h6⟩
  ·cases h
   exact⟨z120 _ hw _,h2,h3⟩
theorem z189{q:Nat}(hi:i≤u.length)(h:z10c u w i=.error q):q≤u.length:=by
 unfold z10c at h
 split at h
 ·rename_i h1
  cases h;exact z390 hi h1
 ·rename_i c j' h1
  split at h
  ·rename_i h45
   obtain⟨hp,_⟩:=at?_some h45
   split at h
   ·rename_i h4
    cases h;exact z390 (by omega) h4
   ·rename_i e k h4
    obtain⟨_,h5,h6⟩:=z18a h4
    split at h
    ·cases h
     omega
    ·cases h
  ·cases h
theorem z15b(k:Rd h b u i)(hb:b<h.next)(hi:i≤u.length)(hu:u.length≤1000000):Step b u h (world n (d+3) 100 [.ptr b 0] h) (byteR (z2e8 u i)):=by
 have hx:=zaa (n:=n) (d:=d) k hb hi hu;unfold z2e8;cases hc:at? u i with
 |none=>
  rw[hc] at hx;refine Step.err_of ?_;rw[z3b];unfold z1c;exact y44 hx fun h' p' k1 k2=>⟨rfl,p',k1,k2⟩
 |some c=>
  rw[hc] at hx;obtain⟨hp,_⟩:=at?_some hc;have h256:=at?_256 hc
  by_cases h92:c=92
  ·show Step b u h _ (byteR (if c = 92 then _ else _))
   rw[if_pos h92];cases he:at? u (i+1) with
   |none=>
    refine Step.err_of ?_;rw[z3b];unfold z1c;refine y29 hx fun h1 k1 t1=>?_;have hx2:=zaa (n:=n) (d:=d) k1 (z22c t1 hb) (by omega) hu;rw[he] at hx2
    repeat(first|(with_reducible first|refine Wp.lett ?_|(apply Wp.obind;exact z4 _ _))|((with_reducible refine y7 ?_ ?_;apply z66);omega))
    exact y44 hx2 fun h' p' k2 t2=>⟨rfl,p',k2,t1.trans t2⟩
   |some e=>
    refine Step.ok_of ?_;rw[z3b];unfold z1c;refine y29 hx fun h1 k1 t1=>?_;have hx2:=zaa (n:=n) (d:=d) k1 (z22c t1 hb) (by omega) hu;rw[he] at hx2
    repeat(first|(with_reducible first|refine Wp.lett ?_|(apply Wp.obind;exact z4 _ _))|((with_reducible refine y7 ?_ ?_;apply z66);omega))
    refine y29 hx2 fun h2 k2 t2=>?_
    repeat(((with_reducible apply Wp.obind);(with_reducible exact z4 _ _)))
    exact Wp.ret ⟨rfl,k2,t1.trans t2⟩
  ·show Step b u h _ (byteR (if c = 92 then _ else _))
   rw[if_neg h92]
   by_cases hs:c=91∨c=93∨c=94∨c=45
   ·rw [if_pos hs]
    refine Step.err_of ?_;rw[z3b];unfold z1c;refine y29 hx fun h1 k1 t1=>?_;have hr:=z1b1 (n:=n) (d:=d) k1 (by omega) hu
    rcases hs with hs|hs|hs|hs
    ·repeat (first | (with_reducible first | (first | refine yf (fun _ _ => ?_) | refine y8 (fun _ _ => ?_)) | refine Wp.lett ?_ | (apply Wp.obind; exact z4 _ _)) | ((with_reducible refine y7 ?_ ?_); first | (with_reducible rfl) | ((with_reducible apply z66); omega)) | ((with_reducible refine y6 ?_ ?_; apply z83); omega) | (with_reducible refine yd (by assumption) ?_))
     exact y18 hr ⟨rfl,_,k1,t1⟩
    ·repeat (first | (with_reducible first | (first | refine yf (fun _ _ => ?_) | refine y8 (fun _ _ => ?_)) | refine Wp.lett ?_ | (apply Wp.obind; exact z4 _ _)) | ((with_reducible refine y7 ?_ ?_); first | (with_reducible rfl) | ((with_reducible apply z66); omega)) | ((with_reducible refine y6 ?_ ?_; apply z83); omega) | (with_reducible refine yd (by assumption) ?_))
     exact y18 hr ⟨rfl,_,k1,t1⟩
    ·repeat (first | (with_reducible first | (first | refine yf (fun _ _ => ?_) | refine y8 (fun _ _ => ?_)) | refine Wp.lett ?_ | (apply Wp.obind; exact z4 _ _)) | ((with_reducible refine y7 ?_ ?_); first | (with_reducible rfl) | ((with_reducible apply z66); omega)) | ((with_reducible refine y6 ?_ ?_; apply z83); omega) | (with_reducible refine yd (by assumption) ?_))
     exact y18 hr ⟨rfl,_,k1,t1⟩
    ·have h45 : ((c : Int) == 45) = true := z66 (by omega)
     repeat(first|(with_reducible first|(first|refine yf (fun _ _=>?_)|refine y8 (fun _ _=>?_))|refine Wp.lett ?_|(apply Wp.obind;exact z4 _ _)|(refine y7 ?_ ?_;assumption))|((with_reducible refine y6 ?_ ?_;apply z83);omega)|(with_reducible refine yd (by assumption) ?_))
     exact y18 hr ⟨rfl,_,k1,t1⟩
   ·rw [if_neg hs]
    refine Step.ok_of ?_;rw[z3b];unfold z1c;refine y29 hx fun h1 k1 t1=>?_;have h45:((c:Int) == 45)=false:=z83 (by omega)
    repeat(first|(with_reducible first|(first|refine yf (fun _ _=>?_)|refine y8 (fun _ _=>?_))|refine Wp.lett ?_|(apply Wp.obind;exact z4 _ _))|((with_reducible refine y6 ?_ ?_);first|(with_reducible assumption)|((with_reducible apply z83);omega))|(with_reducible first|refine y26 (by assumption) ?_|refine yd (by assumption) ?_))
    exact Wp.ret ⟨rfl,k1,t1⟩
def StepM(S:List Nat)(h0:AHeap)(xs:List zd7)(b q:Nat)(u:Bytes)(x:R):Except Nat (List Nat×Nat)→Prop
 | .ok (w',j)=>∃h',x=some (.ret (.tup []),h')∧Mem S h0 h' ((b,TRd,rdP u j)::(q,z446,z1f w')::xs)
 | .error e=>∃h' p,x=some (.panic (z27b 6 e),h')∧Rd h' b u p∧Tch S h0 h'
theorem StepM.ok_of{x:R}{w':List Nat}{j:Nat}(k:Wp x fun r h'=>r=.ret (.tup [])∧Mem S h0 h' ((b,TRd,rdP u j)::(q,z446,z1f w')::xs)):StepM S h0 xs b q u x (.ok (w',j)):=k.ex
theorem StepM.err_of{x:R}{e:Nat}(k:Wp x fun r h'=>r=.panic (z27b 6 e)∧∃p,Rd h' b u p∧Tch S h0 h'):StepM S h0 xs b q u x (.error e):=by
 obtain⟨_,h',e1,rfl,p,k1,k2⟩:=k;exact⟨h',p,e1,k1,k2⟩
theorem z3bd(hn:300<n){lo hi:Nat}(h1:lo≤hi)(h2:hi<256)(hw:WordsOk w){y:zd7}(M:Mem S h0 h (y::(q,z446,z1f w)::xs)):∃h',world n (d+1) 91 [.ptr q 0,.int .u8 (lo:Int),.int .u8 (hi:Int)] h=some (.ret (.tup []),h')∧Mem S h0 h' (y::(q,z446,z1f (z213 w lo (hi+1 - lo)))::xs):=by
 have k0:RowH h q z446 ([]++(z1f w++[])):=by
  rw[List.nil_append,List.append_nil];exact M.at1.1
 obtain⟨h',e,k1,t⟩:=z2db (n:=n) (d:=d) rfl hn h1 h2 hw k0;rw[List.nil_append,List.append_nil] at k1;exact⟨h',e,y17 (xs:=[y]) M t k1⟩
theorem z28f(hn:300<n)(hw:WordsOk w)(M:Mem S h0 h ((b,TRd,rdP u i)::(q,z446,z1f w)::xs))(hi:i≤u.length)(hu:u.length≤1000000):StepM S h0 xs b q u (world n (d+4) 99 [.ptr b 0,.ptr q 0] h) (z10c u w i):=by
 have hx:=z15b (n:=n) (d:=d) M.at0.1 M.at0.2.1 hi hu;unfold z10c;have bS:=M.at0.2.2;have up:∀{h1:AHeap} {p:Nat},Rd h1 b u p→Tch [b] h h1→Tch S h0 h1:=fun k t=>(y17 (xs:=[]) M t k).tch;cases hm:z2e8 u i with
 |error e=>
  rw[hm] at hx;refine StepM.err_of ?_;rw[z4f];unfold z24;exact y44 hx fun h' p' k1 k2=>⟨rfl,p',k1,up k1 k2⟩
 |ok cj=>
  obtain⟨c,j⟩:=cj;rw[hm] at hx;obtain⟨c1,c2,c3⟩:=z18a hm
  by_cases h45:at? u j=some 45
  ·show StepM S h0 xs b q u _ (if at? u j = some 45 then _ else _)
   rw[if_pos h45];obtain⟨hj,_⟩:=at?_some h45;cases hm2:z2e8 u (j+1) with
   |error e=>
    refine StepM.err_of ?_;rw[z4f];unfold z24;refine y29 hx fun h1 k1 t1=>?_;have hs:=z8f (n:=n) (d:=d) k1 (z22c t1 M.at0.2.1) c3 hu 45;rw[if_pos h45,decide_eq_true h45] at hs
    repeat(((with_reducible apply Wp.obind);(with_reducible exact z4 _ _)))
    refine y28 hs fun h2 k2 t2=>?_;have hx2:=z15b (n:=n) (d:=d) k2 (z22c (t1.trans t2) M.at0.2.1) (by omega) hu;rw[hm2] at hx2
    repeat(with_reducible first|refine y8 (fun _ _=>?_)|(apply Wp.obind;exact z5 _)|(refine y7 ?_ ?_;rfl))
    exact y44 hx2 fun h' p' k3 t3=>⟨rfl,p',k3,up k3 ((t1.trans t2).trans t3)⟩
   |ok ek=>
    obtain⟨e,k⟩:=ek;obtain⟨e1,e2,e3⟩:=z18a hm2;show StepM S h0 xs b q u _ (if e<c then _ else _)
    by_cases hlt:e<c
    ·rw [if_pos hlt]
     obtain⟨k',rfl⟩:∃k',k=k'+1:=⟨k - 1,by omega⟩;refine StepM.err_of ?_;rw[z4f];unfold z24;refine y29 hx fun h1 k1 t1=>?_;have hs:=z8f (n:=n) (d:=d) k1 (z22c t1 M.at0.2.1) c3 hu 45;rw[if_pos h45,decide_eq_true h45] at hs
     repeat(((with_reducible apply Wp.obind);(with_reducible exact z4 _ _)))
     refine y28 hs fun h2 k2 t2=>?_;have hx2:=z15b (n:=n) (d:=d) k2 (z22c (t1.trans t2) M.at0.2.1) (by omega) hu;rw[hm2] at hx2
     repeat(with_reducible first|refine y8 (fun _ _=>?_)|(apply Wp.obind;exact z5 _)|(refine y7 ?_ ?_;rfl))
     refine y29 hx2 fun h3 k3 t3=>?_;have hr:=z1b1 (n:=n) (d:=d+1) k3 (by omega) hu
     repeat(first|(with_reducible first|refine yf (fun _ _=>?_)|refine Wp.lett ?_|(apply Wp.obind;exact z4 _ _))|((with_reducible refine y7 ?_ ?_;apply decide_eq_true);omega))
     exact y18 hr ⟨rfl,_,k3,up k3 ((t1.trans t2).trans t3)⟩
    ·rw [if_neg hlt]
     refine StepM.ok_of ?_;rw[z4f];unfold z24;refine y29 hx fun h1 k1 t1=>?_;have hs:=z8f (n:=n) (d:=d) k1 (z22c t1 M.at0.2.1) c3 hu 45;rw[if_pos h45,decide_eq_true h45] at hs
     repeat(((with_reducible apply Wp.obind);(with_reducible exact z4 _ _)))
     refine y28 hs fun h2 k2 t2=>?_;have hx2:=z15b (n:=n) (d:=d) k2 (z22c (t1.trans t2) M.at0.2.1) (by omega) hu;rw[hm2] at hx2
     repeat(with_reducible first|refine y8 (fun _ _=>?_)|(apply Wp.obind;exact z5 _)|(refine y7 ?_ ?_;rfl))
     refine y29 hx2 fun h3 k3 t3=>?_;obtain⟨h4,e4,M4⟩:=z3bd (n:=n) (d:=d+2) hn (by omega:c≤e) e1 hw (y17 (xs:=[]) M ((t1.trans t2).trans t3) k3)
     repeat(first|(with_reducible first|refine yf (fun _ _=>?_)|refine Wp.lett ?_|(apply Wp.obind;exact z4 _ _))|((with_reducible refine y6 ?_ ?_;apply decide_eq_false);omega)|(with_reducible first|(apply Wp.callN;assumption)|(first|refine y26 (by assumption) ?_|refine yd (by assumption) ?_)))
     exact Wp.ret ⟨rfl,M4⟩
  ·show StepM S h0 xs b q u _ (if at? u j = some 45 then _ else _)
   rw[if_neg h45];refine StepM.ok_of ?_;rw[z4f];unfold z24;refine y29 hx fun h1 k1 t1=>?_;have hs:=z8f (n:=n) (d:=d) k1 (z22c t1 M.at0.2.1) c3 hu 45;rw[if_neg h45,decide_eq_false h45] at hs
   repeat(((with_reducible apply Wp.obind);(with_reducible exact z4 _ _)))
   refine y28 hs fun h2 k2 t2=>?_;obtain⟨h4,e4,M4⟩:=z3bd (n:=n) (d:=d+2) hn (Nat.le_refl c) c1 hw (y17 (xs:=[]) M (t1.trans t2) k2);rw[show c+1 - c=1 by omega] at M4
   repeat(with_reducible first|refine y8 (fun _ _=>?_)|(apply Wp.obind;exact z5 _)|(refine y6 ?_ ?_;rfl)|(apply Wp.callN;assumption)|refine yd (by assumption) ?_)
   exact Wp.ret ⟨rfl,M4⟩
end
section
variable {n d b p q i:Nat}{h h0:AHeap}{u:Bytes}{Q:ARes→AHeap→Prop}{S:List Nat}{xs:List zd7}{w:List Nat}
theorem z26d(hu:u.length≤1000000):∀(k j:Nat) (w:List Nat),j≤u.length→u.length - j<k→WordsOk w→∃r,LoopP u w j r∧(∀w' j',r=.ok (w',j')→WordsOk w'∧j<j'∧j'≤u.length)∧(∀e,r=.error e→e≤u.length)∧
   ∀{n d f b q:Nat} {S:List Nat} {h0 H hp0:AHeap} {xs:List zd7} {k16:AHeap→R} {Q:ARes→AHeap→Prop},z6 hp0=.ptr q 0→u.length - j<f→300<n→Mem S h0 H ((b,TRd,rdP u j)::(q,z446,z1f w)::xs)→
    (∀w' j' H',r=.ok (w',j')→Mem S h0 H' ((b,TRd,rdP u j')::(q,z446,z1f w')::xs)→Wp (k16 H') Q)→
    (∀e p H',r=.error e→Rd H' b u p→Tch S h0 H'→Q (.panic (z27b 6 e)) H')→
    Wp (z44 (world n (d+4)) (.ptr b 0) hp0 k16 f H) Q
 |0,_,_,_,hk,_=>by omega
 |k+1,j,w,hj,hk,hw=>by
  by_cases h93:at? u j=some 93
  ·obtain ⟨hp, _⟩ := at?_some h93
   refine⟨.ok (w,j+1),.done h93,?_,?_,?_⟩
   ·intro w' j' e
    cases e
    exact⟨hw,by omega,by omega⟩
   ·intro e he
    cases he
   ·intro n d f b q S h0 H hp0 xs k16 Q eq hf hn M hok hbad
    cases f with
    |zero=>omega
    |succ f=>
     rw[z51];unfold z2f;have hs:=z8f (n:=n) (d:=d+1) M.at0.1 M.at0.2.1 hj hu 93;rw[if_pos h93,decide_eq_true h93] at hs;refine y28 hs fun h1 k1 t1=>?_
     repeat(with_reducible first|refine Wp.lett ?_|(apply Wp.obind;exact z5 _)|(refine y6 ?_ ?_;exact Bool.not_true))
     exact hok w (j+1) h1 rfl (y17 (xs:=[]) M t1 k1)
  ·cases hm : z10c u w j with
   |error e=>
    refine⟨.error e,.bad h93 hm,?_,?_,?_⟩
    ·intro w' j' e
     cases e
    ·intro e' he
     cases he;exact z189 hj hm
    ·intro n d f b q S h0 H hp0 xs k16 Q eq hf hn M hok hbad
     cases f with
     |zero=>omega
     |succ f=>
      rw[z51];unfold z2f;have hs:=z8f (n:=n) (d:=d+1) M.at0.1 M.at0.2.1 hj hu 93;rw[if_neg h93,decide_eq_false h93] at hs;refine y28 hs fun h1 k1 t1=>?_;have hx:=z28f (n:=n) (d:=d) hn hw (y17 (xs:=[]) M t1 k1) hj hu;rw[hm] at hx;obtain⟨h2,p2,e2,k2,t2⟩:=hx;rw[eq]
      repeat(with_reducible first|refine Wp.lett ?_|(apply Wp.obind;exact z5 _)|(refine y7 ?_ ?_;exact Bool.not_false))
      exact y18 e2 (hbad e p2 h2 rfl k2 t2)
   |ok wj=>
    obtain⟨w',j'⟩:=wj;obtain⟨m1,m2,m3⟩:=z30d hw hm;obtain⟨r,r1,r2,r3,r4⟩:=z26d hu k j' w' m3 (by omega) m1;refine⟨r,.more h93 hm r1,?_,r3,?_⟩
    ·intro w2 j2 e
     obtain⟨a1,a2,a3⟩:=r2 w2 j2 e;exact⟨a1,by omega,a3⟩
    ·intro n d f b q S h0 H hp0 xs k16 Q eq hf hn M hok hbad
     cases f with
     |zero=>omega
     |succ f=>
      rw[z51];unfold z2f;have hs:=z8f (n:=n) (d:=d+1) M.at0.1 M.at0.2.1 hj hu 93;rw[if_neg h93,decide_eq_false h93] at hs;refine y28 hs fun h1 k1 t1=>?_;have hx:=z28f (n:=n) (d:=d) hn hw (y17 (xs:=[]) M t1 k1) hj hu;rw[hm] at hx;obtain⟨h2,e2,M2⟩:=hx;rw[eq]
      repeat(with_reducible first|refine Wp.lett ?_|(apply Wp.obind;exact z5 _)|(refine y7 ?_ ?_;exact Bool.not_false)|(apply Wp.callK;assumption))
      exact r4 eq (by omega) hn M2 hok hbad
theorem z2aa{hp0:AHeap}{k29:AHeap→R}{y:zd7}(eq:z6 hp0=.ptr q 0):∀(v2 v1:List Nat) (f:Nat) (H:AHeap),v2.length<f→v1.length+v2.length=4→(∀x∈v2,x<18446744073709551616)→Mem S h0 H (y::(q,z446,z1f v1++z1f v2)::xs)→
   (∀H',Mem S h0 H' (y::(q,z446,z1f v1++z1f (z168 v2))::xs)→Wp (k29 H') Q)→Wp (z45 hp0 k29 f ((v1.length:Nat):Int) H) Q
 |_,_,0,_,hf,_,_,_,_=>by omega
 |[],v1,f+1,H,hf,hl,hs,M,hk=>by
  rw[z85];unfold z40;rw[List.length_nil] at hl
  repeat(first|(with_reducible refine Wp.lett ?_)|((with_reducible refine y6 ?_ ?_;apply decide_eq_false);omega))
  exact hk H M
 |x::v2,v1,f+1,H,hf,hl,hs,M,hk=>by
  rw[z85];unfold z40;rw[List.length_cons] at hl hf;have hx:=hs x List.mem_cons_self;rw[eq];have e1:=z15f (n:=4) (b:=q) (o:=0) (i:=v1.length) (by omega);rw[Nat.zero_add] at e1;have hlv:=z58 v1
  have ho:(z1f v1++z1f (x::v2))[v1.length]? =some (.int .u64 (x:Int)):=by
   rw[List.getElem?_append_right (by omega),hlv,Nat.sub_self];rfl
  repeat(first|(with_reducible first|refine Wp.lett ?_|(apply Wp.obind;exact e1))|((with_reducible refine y7 ?_ ?_;apply decide_eq_true);omega))
  refine y2f M ho ?_
  repeat(with_reducible first|refine Wp.lett ?_|(apply Wp.obind;first|exact e1|exact z4 _ _))
  rw[show (18446744073709551615:Int)=((18446744073709551615:Nat):Int) from rfl,xorI_nat hx (by omega)];refine Wp.ms1 M (by simp[z58]) rfl fun H' M'=>?_
  have es:(z1f v1++z1f (x::v2)).set v1.length (.int .u64 ((x ^^^ 18446744073709551615:Nat):Int))=z1f (v1++[x ^^^ 18446744073709551615])++z1f v2:=by
   rw[List.set_append_right _ _ (by omega),hlv,Nat.sub_self]
   simp[z1f]
  rw[es] at M'
  repeat(((with_reducible refine ye ?_ ?_ ?_);omega;omega))
  have el:(v1.length:Int)+1=(((v1++[x ^^^ 18446744073709551615]).length:Nat):Int):=by simp
  rw[el];refine z2aa eq v2 (v1++[x ^^^ 18446744073709551615]) f H' (by omega) (by simp;omega) (fun z hz=>hs z (List.mem_cons_of_mem _ hz)) M' fun H2 M2=>hk H2 ?_;have e2:z1f (v1++[x ^^^ 18446744073709551615])++z1f (z168 v2)=z1f v1++z1f (z168 (x::v2)):=by simp[z1f,z168]
  rw[e2] at M2;exact M2
theorem z4a7(hu:u.length≤1000000)(hi:i≤u.length):∃r,SetP u i r∧(∀w j,r=.ok (w,j)→WordsOk w∧i<j∧j≤u.length)∧(∀e,r=.error e→e≤u.length)∧
  ∀{n d b:Nat} {h:AHeap},300<n→u.length<n→Rd h b u i→b<h.next→Step b u h (world n (d+5) 97 [.ptr b 0] h) (setR r):=by
 have hb1:z488 u i≤u.length∧i≤z488 u i:=by
  unfold z488
  by_cases h94:at? u i=some 94
  ·obtain ⟨hp, _⟩ := at?_some h94
   rw[if_pos h94];omega
  ·rw [if_neg h94]
   omega
 cases hm:z10c u z8e (z488 u i) with
 |error e=>
  refine⟨.error e,.bad hm,?_,?_,?_⟩
  ·intro w j hh
   cases hh
  ·intro e' hh
   cases hh;exact z189 hb1.1 hm
  ·intro n d b h hn hn2 k hb
   refine Step.err_of ?_;have hs:=fun (h':AHeap) (k':Rd h' b u i) (hb':b<h'.next)=>z8f (n:=n) (d:=d+1) k' hb' hi hu 94;rw[zfc];unfold z35;have Mx:=Mem.one k hb
   repeat(first|((with_reducible apply y9 Mx);clear Mx;intro _ Mx)|rw[ze])
   have hs1:=hs _ Mx.at1.1 Mx.at1.2.1;refine y28 hs1 fun h1 k1 t1=>?_;have Mz:=y17 (xs:=[_]) Mx t1 k1;clear Mx;have Mx:=Mz;clear Mz
   repeat(first|(with_reducible apply Wp.obind;exact z5 _)|((with_reducible apply y9 Mx);clear Mx;intro _ Mx)|rw[ze])
   have M2:Mem _ _ _ ((b,TRd,rdP u (z488 u i))::(h1.next,z446,z1f z8e)::[_]):=Mx.perm (List.perm_append_comm (l₁:=[_]) (l₂:=[_,_]));have hx:=z28f (n:=n) (d:=d) hn z7c M2 hb1.1 hu;rw[hm] at hx;obtain⟨h2,p2,e2,k2,t2⟩:=hx;exact y18 e2 ⟨rfl,p2,k2,t2⟩
 |ok wj=>
  obtain⟨w,j⟩:=wj;obtain⟨m1,m2,m3⟩:=z30d z7c hm;obtain⟨r,r1,r2,r3,r4⟩:=z26d hu (u.length+1) j w m3 (by omega) m1;refine⟨z49d u i r,.set hm r1,?_,?_,?_⟩
  ·intro w' j' hh
   cases r with
   |error e=>cases hh
   |ok wj2=>
    obtain⟨w2,j2⟩:=wj2;obtain⟨a1,a2,a3⟩:=r2 w2 j2 rfl;cases hh;refine⟨?_,by omega,a3⟩
    split
    ·exact z305 a1
    ·exact a1
  ·intro e hh
   cases r with
   |error e'=>
    cases hh;exact r3 _ rfl
   |ok wj2=>cases hh
  ·intro n d b h hn hn2 k hb
   have main:∀Q:ARes→AHeap→Prop,(∀w' j' H',r=.ok (w',j')→Rd H' b u j'→Tch [b] h H'→Q (.ret (.agg (z1f (if at? u i=some 94 then z168 w' else w')))) H')→(∀e p H',r=.error e→Rd H' b u p→Tch [b] h H'→Q (.panic (z27b 6 e)) H')→Wp (world n (d+5) 97 [.ptr b 0] h) Q:=by
    intro Q q1 q2;have hs:=fun (h':AHeap) (k':Rd h' b u i) (hb':b<h'.next)=>z8f (n:=n) (d:=d+1) k' hb' hi hu 94;rw[zfc];unfold z35;have Mx:=Mem.one k hb
    repeat(first|((with_reducible apply y9 Mx);clear Mx;intro _ Mx)|rw[ze])
    have hs1:=hs _ Mx.at1.1 Mx.at1.2.1;refine y28 hs1 fun h1 k1 t1=>?_;have Mz:=y17 (xs:=[_]) Mx t1 k1;clear Mx;have Mx:=Mz;clear Mz
    repeat(first|(with_reducible apply Wp.obind;exact z5 _)|((with_reducible apply y9 Mx);clear Mx;intro _ Mx)|rw[ze])
    have M2:Mem _ _ _ ((b,TRd,rdP u (z488 u i))::(h1.next,z446,z1f z8e)::[_]):=Mx.perm (List.perm_append_comm (l₁:=[_]) (l₂:=[_,_]));have hx:=z28f (n:=n) (d:=d) hn z7c M2 hb1.1 hu;rw[hm] at hx;obtain⟨h2,e2,M3⟩:=hx;refine Wp.callK e2 ?_
    ((with_reducible refine yf (fun _ _=>?_)))
    rename_i k16 ek16;refine r4 (ze h1) (by omega) hn M3 ?_ ?_
    ·intro w' j' H' hr M4
     obtain⟨a1,a2,a3⟩:=r2 w' j' hr
     ((with_reducible refine y26 (by assumption) ?_))
     ((with_reducible refine yf (fun _ _=>?_)))
     rename_i k20 ek20
     have fin:∀{w2:List Nat} {H2:AHeap},WordsOk w2→w2=(if at? u i=some 94 then z168 w' else w')→Mem [b] h H2 ((b,TRd,rdP u j')::(h1.next,z446,z1f w2)::[(h.next,z446,[.int .u64 0,.int .u64 0,.int .u64 0,.int .u64 0])])→Wp (k20 H2) Q:=by
      intro w2 H2 o2 ew M5;have hl:(z1f w2).length=4:=by rw[z58,o2.len]
      refine y26 ek20 ?_;refine y1f M5 hl ?_;refine y39 M5 hl rfl (z1c7 _) fun H3 M6=>?_;refine y42 M6 hl ?_;rw[ew] at M6 ⊢;exact Wp.ret (q1 w' j' H3 hr M6.at0.1 M6.tch)
     by_cases h94:at? u i=some 94
     ·(((with_reducible refine y7 ?_ ?_; apply decide_eq_true); omega))
      ((with_reducible refine yf (fun _ _=>?_)))
      rename_i k29 ek29;have ho:=z2aa (S:=[b]) (h0:=h) (k29:=k29) (Q:=Q) (ze h1) w' [] n H' (by rw[a1.len];omega) (by rw[a1.len];rfl) a1.small (by exact M4);refine ho fun H2 M5=>?_;refine y26 ek29 ?_;exact fin (z305 a1) (by rw[if_pos h94]) M5
     ·(((with_reducible refine y6 ?_ ?_; apply decide_eq_false); omega))
      exact fin a1 (by rw[if_neg h94]) M4
    ·intro e p H' hr k5 t5
     exact q2 e p H' hr k5 t5
   cases r with
   |error e=>exact Step.err_of (main _ (fun w' j' H' hh=>by cases hh) fun e' p H' hh k5 t5=>by cases hh;exact⟨rfl,p,k5,t5⟩)
   |ok wj2=>
    obtain⟨w2,j2⟩:=wj2;exact Step.ok_of (main _ (fun w' j' H' hh k5 t5=>by cases hh;exact⟨rfl,k5,t5⟩) fun e' p H' hh=>by cases hh)
end
def Bnd(u:Bytes)(i:Nat):Res→Prop
 | .ok (_,j)=>i≤j∧j≤u.length
 | .error q=>q≤u.length
def Bnd1(u:Bytes)(i:Nat):Res→Prop
 | .ok (_,j)=>i<j∧j≤u.length
 | .error q=>q≤u.length
def AltOk(u:Bytes)(m:Nat):Prop:=∀i,i≤u.length→u.length - i≤m→∃r,AltP u [] i r∧Bnd u i r∧
 ∀{n D b:Nat} {h:AHeap},4*m+9≤D→300<n→u.length+5<n→Rd h b u i→b<h.next→zbb z22 h.ex=false→StepN b u h (world n D 76 [.ptr b 0] h) r
def RowOk(u:Bytes)(m:Nat):Prop:=∀i,i≤u.length→u.length - i≤m→∃r,RowP u [] i r∧Bnd u i r∧
 ∀{n D b:Nat} {h:AHeap},4*m+8≤D→300<n→u.length+5<n→Rd h b u i→b<h.next→zbb z22 h.ex=false→StepN b u h (world n D 87 [.ptr b 0] h) r
def PartOk(u:Bytes)(m:Nat):Prop:=∀i,i≤u.length→u.length - i≤m→∃r,PartP u i r∧Bnd1 u i r∧
 ∀{n D b:Nat} {h:AHeap},4*m+7≤D→300<n→u.length+5<n→Rd h b u i→b<h.next→zbb z22 h.ex=false→StepN b u h (world n D 93 [.ptr b 0] h) r
def AtomOk(u:Bytes)(m:Nat):Prop:=∀i,i≤u.length→u.length - i≤m→∃r,AtomP u i r∧Bnd1 u i r∧
 ∀{n D b:Nat} {h:AHeap},4*m+6≤D→300<n→u.length+5<n→Rd h b u i→b<h.next→zbb z22 h.ex=false→StepN b u h (world n D 95 [.ptr b 0] h) r
section
variable {n d b p q i:Nat}{h h0:AHeap}{u:Bytes}{Q:ARes→AHeap→Prop}{S:List Nat}{xs rs T:List zd7}{w:List Nat}{x:R}{k:AV→AHeap→R}{t:Nd}{c:List AV}{v:AV}
theorem StepN.ok_of(kk:Wp x fun r h'=>∃c T,r=.ret (.agg c)∧NodeT t c T∧Mem [b] h h' ((b,TRd,rdP u p)::T)):StepN b u h x (.ok (t,p)):=by
 obtain⟨_,h',e,c,T,rfl,k1,k2⟩:=kk;exact⟨c,T,h',e,k1,k2⟩
theorem StepN.err_of(kk:Wp x fun r h'=>r=.panic (z27b 6 q)∧∃p,Rd h' b u p∧Tch [b] h h'):StepN b u h x (.error q):=by
 obtain⟨_,h',e,rfl,p,k1,k2⟩:=kk;exact⟨h',p,e,k1,k2⟩
theorem y25(hx:StepN b u h x (.ok (t,p)))(M:Mem S h0 h ((b,TRd,rdP u i)::rs))(hk:∀c T h',NodeT t c T→Mem S h0 h' ((b,TRd,rdP u p)::(rs++T))→Wp (k (.agg c) h') Q):Wp (callK x k) Q:=by
 obtain⟨c,T,h',e,kt,M'⟩:=hx;exact Wp.callK e (hk c T h' kt (y3f (xs:=[_]) (ys:=[_]) M M'))
theorem y2e(hx:StepN b u h x (.error q))(M:Mem S h0 h ((b,TRd,rdP u i)::rs))(hq:∀h' p,Rd h' b u p→Tch S h0 h'→Q (.panic (z27b 6 q)) h'):Wp (callK x k) Q:=by
 obtain⟨h',p,e,k1,k2⟩:=hx;exact y18 e (hq h' p k1 (y17 (xs:=[]) M k2 k1).tch)
theorem y2a(hx:Step b u h x (.ok (v,p)))(M:Mem S h0 h ((b,TRd,rdP u i)::rs))(hk:∀h',Mem S h0 h' ((b,TRd,rdP u p)::rs)→Wp (k v h') Q):Wp (callK x k) Q:=
 y29 hx fun h' k1 t1=>hk h' (y17 (xs:=[]) M t1 k1)
theorem y3a(hx:Step b u h x (.ok (v,p)))(M:Mem S h0 h ((b,TRd,rdP u i)::rs))(hk:∀h',Mem S h0 h' ((b,TRd,rdP u p)::rs)→Wp (k v h') Q):Wp (callN x k) Q:=
 y28 hx fun h' k1 t1=>hk h' (y17 (xs:=[]) M t1 k1)
theorem y4e(hx:Step b u h x (.error (6,q)))(M:Mem S h0 h ((b,TRd,rdP u i)::rs))(hq:∀h' p,Rd h' b u p→Tch S h0 h'→Q (.panic (z27b 6 q)) h'):Wp (callK x k) Q:=
 y44 hx fun h' p k1 t1=>hq h' p k1 (y17 (xs:=[]) M t1 k1).tch
theorem z7f{r0:Nat}{l:List AV}(M:Mem S h0 h ((b,TRd,rdP u p)::(r0,z22,l)::T))(hl:l.length=6)(kt:NodeT t c T):Wp (obind (z15 h 6 c (.ptr r0 0)) fun h1=>obind (z16 h1 6 (.ptr r0 0)) fun w=>some (.ret (.agg w),h1)) fun r h'=>∃c T,r=.ret (.agg c)∧NodeT t c T∧Mem S h0 h' ((b,TRd,rdP u p)::T):=by
 refine y24 M kt.len hl kt.one fun h1 M1=>?_;refine y1f M1 kt.len ?_;exact Wp.ret ⟨c,T,rfl,kt,z25b (xs:=[_]) (T0:=[_]) M1⟩
theorem atom_ok(hu:u.length≤1000000){m:Nat}(ih:∀m',m=m'+1→AltOk u m'):AtomOk u m:=by
 intro i hi hm;cases hc:at? u i with
 |none=>
  refine⟨_,.none hc,hi,?_⟩;intro n D b h hD hn hn2 k0 hb hx;obtain⟨D,rfl⟩:∃D',D=D'+6:=⟨D - 6,by omega⟩;refine StepN.err_of ?_;rw[z20];unfold z18;have Mx:=Mem.one k0 hb
  repeat(first|((with_reducible apply y9 Mx);clear Mx;intro _ Mx)|rw[ze])
  have M1:=Mx.swap;have hs:=zaa (n:=n) (d:=D+3) M1.at0.1 M1.at0.2.1 hi hu;rw[hc] at hs;exact y4e hs M1 fun h' p k1 t1=>⟨rfl,p,k1,t1⟩
 |some c=>
  obtain⟨hp,_⟩:=at?_some hc;have h256:=at?_256 hc
  by_cases h40:c=40
  ·subst h40
   obtain⟨m',rfl⟩:∃m',m=m'+1:=⟨m - 1,by omega⟩;obtain⟨r,r1,r2,r3⟩:=ih m' rfl (i+1) (by omega) (by omega)
   cases r with
   |error q=>
    refine⟨_,.open_bad hc r1,r2,?_⟩;intro n D b h hD hn hn2 k0 hb hx;obtain⟨D,rfl⟩:∃D',D=D'+6:=⟨D - 6,by omega⟩;refine StepN.err_of ?_;rw[z20];unfold z18;have Mx:=Mem.one k0 hb
    repeat(first|((with_reducible apply y9 Mx);clear Mx;intro _ Mx)|rw[ze])
    have M1:=Mx.swap;have hs:=zaa (n:=n) (d:=D+3) M1.at0.1 M1.at0.2.1 hi hu;rw[hc] at hs;refine y2a hs M1 fun h1 M2=>?_;have hs2:=r3 (n:=n) (D:=D+5) (by omega) hn hn2 M2.at0.1 M2.at0.2.1 (by rw[M2.ex];exact hx)
    repeat(first|(with_reducible first|refine Wp.lett ?_|(apply Wp.obind;exact z4 _ _))|((with_reducible refine y7 ?_ ?_;apply z66);omega))
    exact y2e hs2 M2 fun h' p k1 t1=>⟨rfl,p,k1,t1⟩
   |ok tj=>
    obtain⟨t,j⟩:=tj;obtain⟨b1,b2⟩:=r2
    by_cases h41:at? u j=some 41
    ·obtain ⟨hj, _⟩ := at?_some h41
     refine⟨_,.group hc r1 h41,⟨by omega,by omega⟩,?_⟩;intro n D b h hD hn hn2 k0 hb hx;obtain⟨D,rfl⟩:∃D',D=D'+6:=⟨D - 6,by omega⟩;refine StepN.ok_of ?_;rw[z20];unfold z18;have Mx:=Mem.one k0 hb
     repeat(first|((with_reducible apply y9 Mx);clear Mx;intro _ Mx)|rw[ze])
     have M1:=Mx.swap;have hs:=zaa (n:=n) (d:=D+3) M1.at0.1 M1.at0.2.1 hi hu;rw[hc] at hs;refine y2a hs M1 fun h1 M2=>?_;have hs2:=r3 (n:=n) (D:=D+5) (by omega) hn hn2 M2.at0.1 M2.at0.2.1 (by rw[M2.ex];exact hx)
     repeat(first|(with_reducible first|refine Wp.lett ?_|(apply Wp.obind;exact z4 _ _))|((with_reducible refine y7 ?_ ?_;apply z66);omega))
     refine y25 hs2 M2 fun c T h2 kt M3=>?_
     (((with_reducible apply Wp.obind);(with_reducible exact z11 _)))
     refine y9 M3 fun h3 M4=>?_;rw[ze];refine y10 M4 kt.len rfl kt.one fun h4 M5=>?_;have M6:=M5.swap;have hs3:=take_r (n:=n) (d:=D+1) M6.at0.1 M6.at0.2.1 b2 hu 41;rw[if_pos h41] at hs3;refine y2a hs3 M6 fun h5 M7=>?_;refine y1f M7 kt.len ?_;exact z7f (z25b (xs:=[_]) (T0:=[_]) M7) rfl kt
    ·refine ⟨_, .open_end hc r1 h41, b2, ?_⟩
     intro n D b h hD hn hn2 k0 hb hx;obtain⟨D,rfl⟩:∃D',D=D'+6:=⟨D - 6,by omega⟩;refine StepN.err_of ?_;rw[z20];unfold z18;have Mx:=Mem.one k0 hb
     repeat(first|((with_reducible apply y9 Mx);clear Mx;intro _ Mx)|rw[ze])
     have M1:=Mx.swap;have hs:=zaa (n:=n) (d:=D+3) M1.at0.1 M1.at0.2.1 hi hu;rw[hc] at hs;refine y2a hs M1 fun h1 M2=>?_;have hs2:=r3 (n:=n) (D:=D+5) (by omega) hn hn2 M2.at0.1 M2.at0.2.1 (by rw[M2.ex];exact hx)
     repeat(first|(with_reducible first|refine Wp.lett ?_|(apply Wp.obind;exact z4 _ _))|((with_reducible refine y7 ?_ ?_;apply z66);omega))
     refine y25 hs2 M2 fun c T h2 kt M3=>?_
     (((with_reducible apply Wp.obind);(with_reducible exact z11 _)))
     refine y9 M3 fun h3 M4=>?_;rw[ze];refine y10 M4 kt.len rfl kt.one fun h4 M5=>?_;have M6:=M5.swap;have hs3:=take_r (n:=n) (d:=D+1) M6.at0.1 M6.at0.2.1 b2 hu 41;rw[if_neg h41] at hs3;exact y4e hs3 M6 fun h' p k1 t1=>⟨rfl,p,k1,t1⟩
  by_cases h46:c=46
  ·subst h46
   refine⟨_,.any hc,⟨by omega,by omega⟩,?_⟩;intro n D b h hD hn hn2 k0 hb hx;obtain⟨D,rfl⟩:∃D',D=D'+6:=⟨D - 6,by omega⟩;refine StepN.ok_of ?_;rw[z20];unfold z18;have Mx:=Mem.one k0 hb
   repeat(first|((with_reducible apply y9 Mx);clear Mx;intro _ Mx)|rw[ze])
   have M1:=Mx.swap;have hs:=zaa (n:=n) (d:=D+3) M1.at0.1 M1.at0.2.1 hi hu;rw[hc] at hs;refine y2a hs M1 fun h1 M2=>?_
   repeat(first|(with_reducible first|refine Wp.lett ?_|(apply Wp.obind;first|exact z4 _ _|exact z11 _))|((with_reducible refine y7 ?_ ?_;apply z66);omega)|((with_reducible refine y6 ?_ ?_;apply z83);omega)|(with_reducible apply Wp.callN;exact z2d9 (d:=D+3) hn))
   exact z7f M2 rfl (y23 2 z361)
  by_cases h91:c=91
  ·subst h91
   obtain⟨r,r1,r2,r2',r3⟩:=z4a7 hu (i:=i+1) (by omega)
   cases r with
   |error q=>
    refine⟨_,.set_bad hc r1,r2' q rfl,?_⟩;intro n D b h hD hn hn2 k0 hb hx;obtain⟨D,rfl⟩:∃D',D=D'+6:=⟨D - 6,by omega⟩;refine StepN.err_of ?_;rw[z20];unfold z18;have Mx:=Mem.one k0 hb
    repeat(first|((with_reducible apply y9 Mx);clear Mx;intro _ Mx)|rw[ze])
    have M1:=Mx.swap;have hs:=zaa (n:=n) (d:=D+3) M1.at0.1 M1.at0.2.1 hi hu;rw[hc] at hs;refine y2a hs M1 fun h1 M2=>?_;have hs2:=r3 (n:=n) (d:=D) hn (by omega) M2.at0.1 M2.at0.2.1
    repeat(first|(with_reducible first|refine Wp.lett ?_|(apply Wp.obind;exact z4 _ _))|((with_reducible refine y7 ?_ ?_;apply z66);omega)|((with_reducible refine y6 ?_ ?_;apply z83);omega))
    exact y4e hs2 M2 fun h' p k1 t1=>⟨rfl,p,k1,t1⟩
   |ok wj=>
    obtain⟨w,j⟩:=wj;obtain⟨o1,o2,o3⟩:=r2 w j rfl;refine⟨_,.set hc r1,⟨by omega,o3⟩,?_⟩;intro n D b h hD hn hn2 k0 hb hx;obtain⟨D,rfl⟩:∃D',D=D'+6:=⟨D - 6,by omega⟩;refine StepN.ok_of ?_;rw[z20];unfold z18;have Mx:=Mem.one k0 hb
    repeat(first|((with_reducible apply y9 Mx);clear Mx;intro _ Mx)|rw[ze])
    have M1:=Mx.swap;have hs:=zaa (n:=n) (d:=D+3) M1.at0.1 M1.at0.2.1 hi hu;rw[hc] at hs;refine y2a hs M1 fun h1 M2=>?_;have hs2:=r3 (n:=n) (d:=D) hn (by omega) M2.at0.1 M2.at0.2.1
    repeat(first|(with_reducible first|refine Wp.lett ?_|(apply Wp.obind;exact z4 _ _))|((with_reducible refine y7 ?_ ?_;apply z66);omega)|((with_reducible refine y6 ?_ ?_;apply z83);omega))
    refine y2a hs2 M2 fun h2 M3=>?_;have hb2:=setBld o1
    repeat(((with_reducible apply Wp.obind);(with_reducible first|exact hb2|exact z11 _)))
    exact z7f M3 rfl (y23 2 o1)
  by_cases h92:c=92
  ·subst h92
   cases he:at? u (i+1) with
   |none=>
    refine⟨_,.sl_end hc he,(by show i+1≤u.length;omega),?_⟩;intro n D b h hD hn hn2 k0 hb hx;obtain⟨D,rfl⟩:∃D',D=D'+6:=⟨D - 6,by omega⟩;refine StepN.err_of ?_;rw[z20];unfold z18;have Mx:=Mem.one k0 hb
    repeat(first|((with_reducible apply y9 Mx);clear Mx;intro _ Mx)|rw[ze])
    have M1:=Mx.swap;have hs:=zaa (n:=n) (d:=D+3) M1.at0.1 M1.at0.2.1 hi hu;rw[hc] at hs;refine y2a hs M1 fun h1 M2=>?_;have hs2:=zaa (n:=n) (d:=D+3) M2.at0.1 M2.at0.2.1 (by omega) hu;rw[he] at hs2
    repeat(first|(with_reducible first|refine Wp.lett ?_|(apply Wp.obind;exact z4 _ _))|((with_reducible refine y7 ?_ ?_;apply z66);omega)|((with_reducible refine y6 ?_ ?_;apply z83);omega))
    exact y4e hs2 M2 fun h' p k1 t1=>⟨rfl,p,k1,t1⟩
   |some e=>
    obtain⟨hp2,_⟩:=at?_some he;refine⟨_,.sl hc he,⟨by omega,by omega⟩,?_⟩;intro n D b h hD hn hn2 k0 hb hx;obtain⟨D,rfl⟩:∃D',D=D'+6:=⟨D - 6,by omega⟩;refine StepN.ok_of ?_;rw[z20];unfold z18;have Mx:=Mem.one k0 hb
    repeat(first|((with_reducible apply y9 Mx);clear Mx;intro _ Mx)|rw[ze])
    have M1:=Mx.swap;have hs:=zaa (n:=n) (d:=D+3) M1.at0.1 M1.at0.2.1 hi hu;rw[hc] at hs;refine y2a hs M1 fun h1 M2=>?_;have hs2:=zaa (n:=n) (d:=D+3) M2.at0.1 M2.at0.2.1 (by omega) hu;rw[he] at hs2
    repeat(first|(with_reducible first|refine Wp.lett ?_|(apply Wp.obind;exact z4 _ _))|((with_reducible refine y7 ?_ ?_;apply z66);omega)|((with_reducible refine y6 ?_ ?_;apply z83);omega))
    refine y2a hs2 M2 fun h2 M3=>?_
    repeat(with_reducible first|(apply Wp.obind;first|exact z4 _ _|exact z11 _)|(apply Wp.callN;exact z1b7 (d:=D+3) hn (at?_256 he)))
    exact z7f M3 rfl (y23 2 (z120 1 z7c e))
  by_cases hbad:z111 c
  ·refine ⟨_, .bad hc hbad, hi, ?_⟩
   intro n D b h hD hn hn2 k0 hb hx;obtain⟨D,rfl⟩:∃D',D=D'+6:=⟨D - 6,by omega⟩;refine StepN.err_of ?_;rw[z20];unfold z18;have Mx:=Mem.one k0 hb
   repeat(first|((with_reducible apply y9 Mx);clear Mx;intro _ Mx)|rw[ze])
   have M1:=Mx.swap;have hs:=zaa (n:=n) (d:=D+3) M1.at0.1 M1.at0.2.1 hi hu;rw[hc] at hs;refine y2a hs M1 fun h1 M2=>?_;have hr:=z1b1 (n:=n) (d:=D+3) M2.at0.1 (by omega) hu
   rcases hbad with hs|hs|hs|hs|hs|hs
   ·repeat (first | (with_reducible first | (first | refine yf (fun _ _ => ?_) | refine y8 (fun _ _ => ?_)) | refine Wp.lett ?_ | (apply Wp.obind; exact z4 _ _)) | ((with_reducible refine y7 ?_ ?_); first | (with_reducible rfl) | ((with_reducible apply z66); omega)) | ((with_reducible refine y6 ?_ ?_; apply z83); omega) | (with_reducible refine yd (by assumption) ?_))
    exact y18 hr ⟨rfl,_,M2.at0.1,M2.tch⟩
   ·repeat (first | (with_reducible first | (first | refine yf (fun _ _ => ?_) | refine y8 (fun _ _ => ?_)) | refine Wp.lett ?_ | (apply Wp.obind; exact z4 _ _)) | ((with_reducible refine y7 ?_ ?_); first | (with_reducible rfl) | ((with_reducible apply z66); omega)) | ((with_reducible refine y6 ?_ ?_; apply z83); omega) | (with_reducible refine yd (by assumption) ?_))
    exact y18 hr ⟨rfl,_,M2.at0.1,M2.tch⟩
   ·repeat (first | (with_reducible first | (first | refine yf (fun _ _ => ?_) | refine y8 (fun _ _ => ?_)) | refine Wp.lett ?_ | (apply Wp.obind; exact z4 _ _)) | ((with_reducible refine y7 ?_ ?_); first | (with_reducible rfl) | ((with_reducible apply z66); omega)) | ((with_reducible refine y6 ?_ ?_; apply z83); omega) | (with_reducible refine yd (by assumption) ?_))
    exact y18 hr ⟨rfl,_,M2.at0.1,M2.tch⟩
   ·repeat (first | (with_reducible first | (first | refine yf (fun _ _ => ?_) | refine y8 (fun _ _ => ?_)) | refine Wp.lett ?_ | (apply Wp.obind; exact z4 _ _)) | ((with_reducible refine y7 ?_ ?_); first | (with_reducible rfl) | ((with_reducible apply z66); omega)) | ((with_reducible refine y6 ?_ ?_; apply z83); omega) | (with_reducible refine yd (by assumption) ?_))
    exact y18 hr ⟨rfl,_,M2.at0.1,M2.tch⟩
   ·repeat (first | (with_reducible first | (first | refine yf (fun _ _ => ?_) | refine y8 (fun _ _ => ?_)) | refine Wp.lett ?_ | (apply Wp.obind; exact z4 _ _)) | ((with_reducible refine y7 ?_ ?_); first | (with_reducible rfl) | ((with_reducible apply z66); omega)) | ((with_reducible refine y6 ?_ ?_; apply z83); omega) | (with_reducible refine yd (by assumption) ?_))
    exact y18 hr ⟨rfl,_,M2.at0.1,M2.tch⟩
   ·have h93 : ((c : Int) == 93) = true := z66 (by omega)
    repeat(first|(with_reducible first|(first|refine yf (fun _ _=>?_)|refine y8 (fun _ _=>?_))|refine Wp.lett ?_|(apply Wp.obind;exact z4 _ _)|(refine y7 ?_ ?_;assumption))|((with_reducible refine y6 ?_ ?_;apply z83);omega)|(with_reducible refine yd (by assumption) ?_))
    exact y18 hr ⟨rfl,_,M2.at0.1,M2.tch⟩
  ·refine ⟨_, .one hc hbad ⟨h40, h46, h91, h92⟩, ⟨by omega, by omega⟩, ?_⟩
   intro n D b h hD hn hn2 k0 hb hx;obtain⟨D,rfl⟩:∃D',D=D'+6:=⟨D - 6,by omega⟩;refine StepN.ok_of ?_;rw[z20];unfold z18;have Mx:=Mem.one k0 hb
   repeat(first|((with_reducible apply y9 Mx);clear Mx;intro _ Mx)|rw[ze])
   have M1:=Mx.swap;have hs:=zaa (n:=n) (d:=D+3) M1.at0.1 M1.at0.2.1 hi hu;rw[hc] at hs;refine y2a hs M1 fun h1 M2=>?_;unfold z111 at hbad;have h93:((c:Int) == 93)=false:=z83 (by omega)
   repeat(first|(with_reducible first|(first|refine yf (fun _ _=>?_)|refine y8 (fun _ _=>?_))|refine Wp.lett ?_|(apply Wp.obind;first|exact z4 _ _|exact z11 _))|((with_reducible refine y6 ?_ ?_);first|(with_reducible assumption)|((with_reducible apply z83);omega))|(with_reducible first|(apply Wp.callN;exact z1b7 (d:=D+3) hn h256)|(first|refine y26 (by assumption) ?_|refine yd (by assumption) ?_)))
   exact z7f M2 rfl (y23 2 (z120 1 z7c c))
end
section
variable {n d b p q i:Nat}{h h0:AHeap}{u:Bytes}{Q:ARes→AHeap→Prop}{S:List Nat}{xs rs T:List zd7}{w:List Nat}{x:R}{t:Nd}{c:List AV}{v:AV}
theorem z291(c:List AV)(q:Nat)(hl:c.length=6)(h1:c.all AV.one=true):GrowT z22 6 [c] (.sl q 0 1 6) [(q,z22,c)]:=by
 refine⟨fun r hr=>?_,.inr ⟨by simp,q,rfl,by simp⟩⟩;rw[List.mem_singleton] at hr;subst hr;exact⟨hl,h1⟩
theorem signed(kt:NodeT t c T)(op q:Nat):NodeT (z385 op [t]) (z8a op z8e (.sl q 0 1 6)) ([(q,z22,c)]++(T++[])):=
 NodeT.mk z7c (z291 c q kt.len kt.one) (KidsT.cons kt .nil)
theorem z1f4{c:Nat}(h:at? u i=some c):z1af u i=z40f c:=by
 unfold z1af;rw[h]
theorem z3ca(h42:at? u i≠some 42)(h43:at? u i≠some 43)(h63:at? u i≠some 63):z1af u i=0:=by
 unfold z1af;cases hc:at? u i with
 |none=>rfl
 |some c=>
  show z40f c=0;rw[hc] at h42 h43 h63;unfold z40f
  split
  ·exact absurd rfl h42
  ·exact absurd rfl h43
  ·exact absurd rfl h63
  ·rfl
theorem z353{r0 n1:Nat}{l:List AV}{D op:Nat}(M:Mem S h0 h ((b,TRd,rdP u p)::(n1,z22,c)::(r0,z22,l)::T))(hl:l.length=6)(kt:NodeT t c T)(hex:zbb z22 h0.ex=false):
  Wp (obind (z16 h 6 (.ptr n1 0)) fun t9=>outK (z16e Tryd.prog h z32d 1 [(0,.agg t9)]) fun v10 h20=>callN (world n (D+1) 84 [.int .i64 (op:Int),v10] h20) fun r11 h22=>obind (z65 r11) fun t11=>obind (z15 h22 6 t11 (.ptr r0 0)) fun h25=>obind (z16 h25 6 (.ptr r0 0)) fun w=>some (.ret (.agg w),h25)) fun r h'=>∃c T,r=.ret (.agg c)∧NodeT (z385 op [t]) c T∧Mem S h0 h' ((b,TRd,rdP u p)::T):=by
 refine y1f M kt.len ?_;refine y32 M (kt.bld h) kt.one hex fun h1 M1=>?_;have g:=z291 c h.next kt.len kt.one;obtain⟨h2,e2,t2⟩:=z41a (n:=n) (d:=D) (h:=h1) g op;refine Wp.callN e2 ?_;have M2:=M1.keep t2;refine Wp.obind (z11 _) ?_
 have M3:Mem S h0 h2 ((b,TRd,rdP u p)::(r0,z22,l)::([(h.next,z22,c)]++(T++[]))):=by
  rw[List.append_nil]
  have M4:=M2.perm (ys:=[(n1,z22,c)]++((b,TRd,rdP u p)::(r0,z22,l)::([(h.next,z22,c)]++T))) (by
   refine List.Perm.trans ?_ (List.perm_append_comm (l₁:=(b,TRd,rdP u p)::(n1,z22,c)::(r0,z22,l)::T) (l₂:=[(h.next,z22,c)]));refine(List.Perm.swap _ _ _).trans ?_;refine List.Perm.cons _ (List.Perm.cons _ (List.Perm.cons _ ?_));exact List.perm_append_comm)
  exact Mem.drop M4
 exact z7f M3 hl (signed kt op h.next)
theorem z167(hu:u.length≤1000000){m:Nat}(ih:AtomOk u m):PartOk u m:=by
 intro i hi hm;obtain⟨r,r1,r2,r3⟩:=ih i hi hm
 cases r with
 |error q=>
  refine⟨_,.bad r1,r2,?_⟩;intro n D b h hD hn hn2 k0 hb hx;obtain⟨D,rfl⟩:∃D',D=D'+7:=⟨D - 7,by omega⟩;refine StepN.err_of ?_;rw[z36];unfold z1a;have Mx:=Mem.one k0 hb
  repeat(first|((with_reducible apply y9 Mx);clear Mx;intro _ Mx)|rw[ze])
  have M1:=Mx.swap;have hs:=r3 (n:=n) (D:=D+6) (by omega) hn hn2 M1.at0.1 M1.at0.2.1 (by rw[M1.ex];exact hx);exact y2e hs M1 fun h' p k1 t1=>⟨rfl,p,k1,t1⟩
 |ok tj=>
  obtain⟨t,j⟩:=tj;obtain⟨b1,b2⟩:=r2
  by_cases h42:at? u j=some 42
  ·have hsg : z1af u j = 5 := z1f4 h42
   obtain⟨hj,_⟩:=at?_some h42;have rp:=PartP.sign r1 (by rw[hsg];decide);rw[hsg] at rp;refine⟨_,rp,⟨by omega,by omega⟩,?_⟩;intro n D b h hD hn hn2 k0 hb hx;obtain⟨D,rfl⟩:∃D',D=D'+7:=⟨D - 7,by omega⟩;refine StepN.ok_of ?_;rw[z36];unfold z1a;have Mx:=Mem.one k0 hb
   repeat(first|((with_reducible apply y9 Mx);clear Mx;intro _ Mx)|rw[ze])
   have M1:=Mx.swap;have hs:=r3 (n:=n) (D:=D+6) (by omega) hn hn2 M1.at0.1 M1.at0.2.1 (by rw[M1.ex];exact hx);refine y25 hs M1 fun c T h2 kt M3=>?_
   (((with_reducible apply Wp.obind);(with_reducible exact z11 _)))
   refine y9 M3 fun h3 M4=>?_;rw[ze];refine y10 M4 kt.len rfl kt.one fun h4 M5=>?_;have M6:=M5.swap;have hs1:=z8f (n:=n) (d:=D+3) M6.at0.1 M6.at0.2.1 b2 hu 42;rw[if_pos h42,decide_eq_true h42] at hs1;refine y3a hs1 M6 fun h5 M7=>?_
   repeat(with_reducible first|(apply Wp.obind;exact z5 _)|(refine y7 ?_ ?_;rfl))
   exact z353 (D:=D+5) (op:=5) M7 rfl kt hx
  by_cases h43:at? u j=some 43
  ·have hsg : z1af u j = 6 := z1f4 h43
   obtain⟨hj,_⟩:=at?_some h43;have rp:=PartP.sign r1 (by rw[hsg];decide);rw[hsg] at rp;refine⟨_,rp,⟨by omega,by omega⟩,?_⟩;intro n D b h hD hn hn2 k0 hb hx;obtain⟨D,rfl⟩:∃D',D=D'+7:=⟨D - 7,by omega⟩;refine StepN.ok_of ?_;rw[z36];unfold z1a;have Mx:=Mem.one k0 hb
   repeat(first|((with_reducible apply y9 Mx);clear Mx;intro _ Mx)|rw[ze])
   have M1:=Mx.swap;have hs:=r3 (n:=n) (D:=D+6) (by omega) hn hn2 M1.at0.1 M1.at0.2.1 (by rw[M1.ex];exact hx);refine y25 hs M1 fun c T h2 kt M3=>?_
   (((with_reducible apply Wp.obind);(with_reducible exact z11 _)))
   refine y9 M3 fun h3 M4=>?_;rw[ze];refine y10 M4 kt.len rfl kt.one fun h4 M5=>?_;have M6:=M5.swap;have hs1:=z8f (n:=n) (d:=D+3) M6.at0.1 M6.at0.2.1 b2 hu 42;rw[if_neg h42,decide_eq_false h42] at hs1;refine y3a hs1 M6 fun h5 M7=>?_;have hs2:=z8f (n:=n) (d:=D+3) M7.at0.1 M7.at0.2.1 b2 hu 43;rw[if_pos h43,decide_eq_true h43] at hs2
   repeat(with_reducible first|(apply Wp.obind;exact z5 _)|(refine y6 ?_ ?_;rfl))
   refine y3a hs2 M7 fun h6 M8=>?_
   repeat(with_reducible first|(apply Wp.obind;exact z5 _)|(refine y7 ?_ ?_;rfl))
   exact z353 (D:=D+5) (op:=6) M8 rfl kt hx
  by_cases h63:at? u j=some 63
  ·have hsg : z1af u j = 7 := z1f4 h63
   obtain⟨hj,_⟩:=at?_some h63;have rp:=PartP.sign r1 (by rw[hsg];decide);rw[hsg] at rp;refine⟨_,rp,⟨by omega,by omega⟩,?_⟩;intro n D b h hD hn hn2 k0 hb hx;obtain⟨D,rfl⟩:∃D',D=D'+7:=⟨D - 7,by omega⟩;refine StepN.ok_of ?_;rw[z36];unfold z1a;have Mx:=Mem.one k0 hb
   repeat(first|((with_reducible apply y9 Mx);clear Mx;intro _ Mx)|rw[ze])
   have M1:=Mx.swap;have hs:=r3 (n:=n) (D:=D+6) (by omega) hn hn2 M1.at0.1 M1.at0.2.1 (by rw[M1.ex];exact hx);refine y25 hs M1 fun c T h2 kt M3=>?_
   (((with_reducible apply Wp.obind);(with_reducible exact z11 _)))
   refine y9 M3 fun h3 M4=>?_;rw[ze];refine y10 M4 kt.len rfl kt.one fun h4 M5=>?_;have M6:=M5.swap;have hs1:=z8f (n:=n) (d:=D+3) M6.at0.1 M6.at0.2.1 b2 hu 42;rw[if_neg h42,decide_eq_false h42] at hs1;refine y3a hs1 M6 fun h5 M7=>?_;have hs2:=z8f (n:=n) (d:=D+3) M7.at0.1 M7.at0.2.1 b2 hu 43;rw[if_neg h43,decide_eq_false h43] at hs2
   repeat(with_reducible first|(apply Wp.obind;exact z5 _)|(refine y6 ?_ ?_;rfl))
   refine y3a hs2 M7 fun h6 M8=>?_;have hs3:=z8f (n:=n) (d:=D+3) M8.at0.1 M8.at0.2.1 b2 hu 63;rw[if_pos h63,decide_eq_true h63] at hs3
   repeat(with_reducible first|(apply Wp.obind;exact z5 _)|(refine y6 ?_ ?_;rfl))
   refine y3a hs3 M8 fun h7 M9=>?_
   repeat(with_reducible first|(apply Wp.obind;exact z5 _)|(refine y7 ?_ ?_;rfl))
   exact z353 (D:=D+5) (op:=7) M9 rfl kt hx
  ·have hsg := z3ca h42 h43 h63
   refine⟨_,.bare r1 hsg,⟨b1,b2⟩,?_⟩;intro n D b h hD hn hn2 k0 hb hx;obtain⟨D,rfl⟩:∃D',D=D'+7:=⟨D - 7,by omega⟩;refine StepN.ok_of ?_;rw[z36];unfold z1a;have Mx:=Mem.one k0 hb
   repeat(first|((with_reducible apply y9 Mx);clear Mx;intro _ Mx)|rw[ze])
   have M1:=Mx.swap;have hs:=r3 (n:=n) (D:=D+6) (by omega) hn hn2 M1.at0.1 M1.at0.2.1 (by rw[M1.ex];exact hx);refine y25 hs M1 fun c T h2 kt M3=>?_
   (((with_reducible apply Wp.obind);(with_reducible exact z11 _)))
   refine y9 M3 fun h3 M4=>?_;rw[ze];refine y10 M4 kt.len rfl kt.one fun h4 M5=>?_;have M6:=M5.swap;have hs1:=z8f (n:=n) (d:=D+3) M6.at0.1 M6.at0.2.1 b2 hu 42;rw[if_neg h42,decide_eq_false h42] at hs1;refine y3a hs1 M6 fun h5 M7=>?_;have hs2:=z8f (n:=n) (d:=D+3) M7.at0.1 M7.at0.2.1 b2 hu 43;rw[if_neg h43,decide_eq_false h43] at hs2
   repeat(with_reducible first|(apply Wp.obind;exact z5 _)|(refine y6 ?_ ?_;rfl))
   refine y3a hs2 M7 fun h6 M8=>?_;have hs3:=z8f (n:=n) (d:=D+3) M8.at0.1 M8.at0.2.1 b2 hu 63;rw[if_neg h63,decide_eq_false h63] at hs3
   repeat(with_reducible first|(apply Wp.obind;exact z5 _)|(refine y6 ?_ ?_;rfl))
   refine y3a hs3 M8 fun h7 M9=>?_
   repeat(with_reducible first|(apply Wp.obind;exact z5 _)|(refine y6 ?_ ?_;rfl))
   refine y1f M9 kt.len ?_;exact z7f (z25b (xs:=[_]) (T0:=[_]) M9) rfl kt
end
section
variable {n d b p q i m:Nat}{h h0:AHeap}{u:Bytes}{Q:ARes→AHeap→Prop}{S:List Nat}{xs rs T T0 T1:List zd7}{w:List Nat}{x:R}{t:Nd}{c:List AV}{v kv:AV}{l:List Nd}{kc:List (List AV)}
theorem y36{r:Res}(main:∀Q:ARes→AHeap→Prop,(∀t j c T H',r=.ok (t,j)→NodeT t c T→Mem [b] h H' ((b,TRd,rdP u j)::T)→Q (.ret (.agg c)) H')→(∀e p H',r=.error e→Rd H' b u p→Tch [b] h H'→Q (.panic (z27b 6 e)) H')→Wp x Q):StepN b u h x r:=by
 cases r with
 |error e=>exact StepN.err_of (main _ (fun t j c T H' hh=>by cases hh) fun e' p H' hh k5 t5=>by cases hh;exact⟨rfl,p,k5,t5⟩)
 |ok tj=>
  obtain⟨t,j⟩:=tj;exact StepN.ok_of (main _ (fun t' j' c T H' hh k5 t5=>by cases hh;exact⟨c,T,rfl,k5,t5⟩) fun e' p H' hh=>by cases hh)
theorem y43{K:AV→AHeap→R}{y z:zd7}(M:Mem S h0 h (y::((z::(T0++T1))++T)))(g:GrowT z22 6 kc kv T0)(ks:KidsT l kc T1)(kt:NodeT t c T)(hex:zbb z22 h0.ex=false)(hl:l.length≤1000001)(hk:∀kv' h' T0',GrowT z22 6 (kc++[c]) kv' T0'→KidsT (l++[t]) (kc++[c]) (T1++T)→Mem S h0 h' (y::z::(T0'++(T1++T)))→Wp (K kv' h') Q):
  Wp (outK (z16e Tryd.prog h z32d 1 [(0,.agg c)]) fun v12 h29=>outK (z7e Tryd.prog h29 z32d z32d kv v12) fun v13 h31=>K v13 h31) Q:=by
 refine y32 M (kt.bld h) kt.one hex fun h1 M1=>?_
 have M2:Mem S h0 h1 ((h.next,z22,c)::(y::z::(T1++T))++T0):=M1.perm (by
  refine List.Perm.cons _ (List.Perm.cons _ (List.Perm.cons _ ?_));show ((T1++T)++T0).Perm ((T0++T1)++T);rw[List.append_assoc T0];exact List.perm_append_comm)
 have hkl:=ks.len;refine Wp.grow M2 g (by kernel_rfl) (by kernel_rfl) (by kernel_rfl) (B:=64) (by kernel_rfl) hex kt.len kt.one (by omega) (by omega) fun kv' h' T0' g' M3=>?_;refine hk kv' h' T0' g' (y52 kt ks) (M3.perm ?_);exact List.Perm.cons _ (List.Perm.cons _ List.perm_append_comm)
theorem at?_none(h:at? u i=none)(hi:i≤u.length):i=u.length:=by
 by_cases hp:i<u.length
 ·rw [at?_lt hp] at h
  cases h
 ·omega
theorem z413(hu:u.length≤1000000)(ih:PartOk u m):∀(k i:Nat) (l:List Nd),i≤u.length→u.length - i≤m→u.length - i<k→l.length≤i→∃r,RowP u l i r∧Bnd u i r∧
   ∀{n D f b r0:Nat} {S:List Nat} {h0 H:AHeap} {kc:List (List AV)} {kv:AV} {T0 T1:List zd7} {z:List AV} {k7:AV→AHeap→R} {Q:ARes→AHeap→Prop},4*m+7≤D→300<n→u.length+5<n→u.length - i<f→GrowT z22 6 kc kv T0→KidsT l kc T1→zbb z22 h0.ex=false→
    Mem S h0 H ((b,TRd,rdP u i)::(r0,z22,z)::(T0++T1))→
    (∀l' j kc kv T0 T1 H',r=.ok (z203 3 l',j)→GrowT z22 6 kc kv T0→KidsT l' kc T1→Mem S h0 H' ((b,TRd,rdP u j)::(r0,z22,z)::(T0++T1))→Wp (k7 kv H') Q)→
    (∀e p H',r=.error e→Rd H' b u p→Tch S h0 H'→Q (.panic (z27b 6 e)) H')→
    Wp (z37 (world n D) (.ptr b 0) k7 f kv H) Q
 |0,_,_,_,_,hk,_=>by omega
 |k+1,i,l,hi,hm,hk,hli=>by
  by_cases hst:z449 u i
  ·refine ⟨_, .stop hst, ⟨Nat.le_refl _, hi⟩, ?_⟩
   intro n D f b r0 S h0 H kc kv T0 T1 z k7 Q hD hn hn2 hf g ks hex M hok hbad;obtain⟨D,rfl⟩:∃D',D=D'+7:=⟨D - 7,by omega⟩
   cases f with
   |zero=>omega
   |succ f=>
    have he:=z16c (n:=n) (d:=D+6) M.at0.1;have h1:world n (D+7) 92 [.ptr b 0,.int .u8 124] H=some (.ret (.bool (decide (at? u i=some 124))),H):=z2a0 (n:=n) (d:=D+5) M.at0.1 hi 124;have h2:world n (D+7) 92 [.ptr b 0,.int .u8 41] H=some (.ret (.bool (decide (at? u i=some 41))),H):=z2a0 (n:=n) (d:=D+5) M.at0.1 hi 41;have hfin:=hok l i kc kv T0 T1 H rfl g ks M;rw[z41];unfold z2b
    rcases hst with hc|hc|hc
    ·have := at?_none hc hi
     rw[decide_eq_true this] at he
     repeat(with_reducible first|refine y8 (fun _ _=>?_)|refine Wp.lett ?_|(apply Wp.obind;exact z5 _)|(refine y6 ?_ ?_;first|rfl|exact Bool.not_true)|(apply Wp.callN;assumption)|refine yd (by assumption) ?_)
     exact hfin
    ·obtain ⟨hp, _⟩ := at?_some hc
     rw[decide_eq_false (by omega)] at he;rw[decide_eq_true hc] at h1
     repeat(with_reducible first|refine y8 (fun _ _=>?_)|refine Wp.lett ?_|(apply Wp.obind;exact z5 _)|(refine y7 ?_ ?_;exact Bool.not_false)|(refine y6 ?_ ?_;first|rfl|exact Bool.not_true)|(apply Wp.callN;assumption)|refine yd (by assumption) ?_)
     exact hfin
    ·obtain ⟨hp, _⟩ := at?_some hc
     rw[decide_eq_false (by omega)] at he;rw[decide_eq_false (by rw[hc];decide)] at h1;rw[decide_eq_true hc] at h2
     repeat(with_reducible first|refine y8 (fun _ _=>?_)|refine Wp.lett ?_|(apply Wp.obind;exact z5 _)|(refine y7 ?_ ?_;exact Bool.not_false)|(refine y6 ?_ ?_;exact Bool.not_true)|(apply Wp.callN;assumption)|refine yd (by assumption) ?_)
     exact hfin
  ·have hlt : i < u.length := by
    rcases Nat.lt_or_ge i u.length with h|h
    ·exact h
    ·exact absurd (.inl (at?_ge h)) hst
   have n1:at? u i≠some 124:=fun hh=>hst (.inr (.inl hh))
   have n2:at? u i≠some 41:=fun hh=>hst (.inr (.inr hh))
   obtain⟨r,r1,r2,r3⟩:=ih i hi hm
   cases r with
   |error e=>
    refine⟨_,.bad hst r1,r2,?_⟩;intro n D f b r0 S h0 H kc kv T0 T1 z k7 Q hD hn hn2 hf g ks hex M hok hbad;obtain⟨D,rfl⟩:∃D',D=D'+7:=⟨D - 7,by omega⟩
    cases f with
    |zero=>omega
    |succ f=>
     have he:=z16c (n:=n) (d:=D+6) M.at0.1;have h1:world n (D+7) 92 [.ptr b 0,.int .u8 124] H=some (.ret (.bool (decide (at? u i=some 124))),H):=z2a0 (n:=n) (d:=D+5) M.at0.1 hi 124;have h2:world n (D+7) 92 [.ptr b 0,.int .u8 41] H=some (.ret (.bool (decide (at? u i=some 41))),H):=z2a0 (n:=n) (d:=D+5) M.at0.1 hi 41;rw[decide_eq_false (by omega)] at he;rw[decide_eq_false n1] at h1;rw[decide_eq_false n2] at h2;have hs:=r3 (n:=n) (D:=D+7) (by omega) hn hn2 M.at0.1 M.at0.2.1 (by rw[M.ex];exact hex);rw[z41];unfold z2b
     repeat(first|(with_reducible first|refine y8 (fun _ _=>?_)|refine Wp.lett ?_|(apply Wp.obind;exact z5 _)|(refine y7 ?_ ?_;exact Bool.not_false))|((with_reducible first|apply Wp.callN|apply Wp.callK);(with_reducible assumption))|(with_reducible refine yd (by assumption) ?_))
     exact y2e hs M fun h' p k1 t1=>hbad e p h' rfl k1 t1
   |ok tj=>
    obtain⟨t,j⟩:=tj;obtain⟨b1,b2⟩:=r2;obtain⟨r,q1,q2,q3⟩:=z413 hu ih k j (l++[t]) b2 (by omega) (by omega) (by simp;omega);refine⟨r,.more hst r1 q1,?_,?_⟩
    ·cases r with
     |error e=>exact q2
     |ok tj2=>
      obtain⟨a1,a2⟩:=q2;exact⟨by omega,a2⟩
    ·intro n D f b r0 S h0 H kc kv T0 T1 z k7 Q hD hn hn2 hf g ks hex M hok hbad
     obtain⟨D,rfl⟩:∃D',D=D'+7:=⟨D - 7,by omega⟩
     cases f with
     |zero=>omega
     |succ f=>
      have he:=z16c (n:=n) (d:=D+6) M.at0.1;have h1:world n (D+7) 92 [.ptr b 0,.int .u8 124] H=some (.ret (.bool (decide (at? u i=some 124))),H):=z2a0 (n:=n) (d:=D+5) M.at0.1 hi 124;have h2:world n (D+7) 92 [.ptr b 0,.int .u8 41] H=some (.ret (.bool (decide (at? u i=some 41))),H):=z2a0 (n:=n) (d:=D+5) M.at0.1 hi 41;rw[decide_eq_false (by omega)] at he;rw[decide_eq_false n1] at h1;rw[decide_eq_false n2] at h2;have hs:=r3 (n:=n) (D:=D+7) (by omega) hn hn2 M.at0.1 M.at0.2.1 (by rw[M.ex];exact hex);rw[z41];unfold z2b
      repeat(first|(with_reducible first|refine y8 (fun _ _=>?_)|refine Wp.lett ?_|(apply Wp.obind;exact z5 _)|(refine y7 ?_ ?_;exact Bool.not_false))|((with_reducible first|apply Wp.callN|apply Wp.callK);(with_reducible assumption))|(with_reducible refine yd (by assumption) ?_))
      refine y25 hs M fun c T h2 kt M3=>?_
      (((with_reducible apply Wp.obind);(with_reducible exact z11 _)))
      refine y43 M3 g ks kt hex (by omega) fun kv' h' T0' g' ks' M4=>?_;exact q3 hD hn hn2 (by omega) g' ks' hex M4 hok hbad
theorem row_ok(hu:u.length≤1000000)(ih:PartOk u m):RowOk u m:=by
 intro i hi hm;obtain⟨r,r1,r2,r3⟩:=z413 hu ih (u.length+1) i [] hi hm (by omega) (Nat.zero_le _);refine⟨r,r1,r2,?_⟩;intro n D b h hD hn hn2 k0 hb hx;obtain⟨D,rfl⟩:∃D',D=D'+8:=⟨D - 8,by omega⟩;refine y36 fun Q q1 q2=>?_;rw[z146];unfold z33;refine y9 (Mem.one k0 hb) fun h1 Mx=>?_;rw[ze];have M1:=Mx.swap
 ((with_reducible refine y8 (fun _ _=>?_)))
 rename_i k7 ek7;refine r3 (r0:=h.next) (by omega) hn hn2 (by omega) (GrowT.nil _ _) .nil hx M1 ?_ q2;intro l' j kc kv T0 T1 H' hr g ks M2;refine yd ek7 ?_;obtain⟨c,T,h2,e2,kt,M3⟩:=inRow_r (n:=n) (d:=D+5) (xs:=[_,_]) M2 g ks
 repeat(with_reducible first|(apply Wp.obind;exact z11 _)|(apply Wp.callN;assumption))
 refine(z7f M3 rfl kt).mono ?_
 rintro _ h3 ⟨c3,T3,rfl,kt3,M4⟩
 exact q1 _ _ _ _ _ hr kt3 M4
end
open Go.RowKit Abs
section
variable {n d b p q i m:Nat}{h h0:AHeap}{u:Bytes}{Q:ARes→AHeap→Prop}{S:List Nat}{xs rs T T0 T1:List zd7}{w:List Nat}{x:R}{t:Nd}{c:List AV}{v kv:AV}{l:List Nd}{kc:List (List AV)}
theorem z444(hu:u.length≤1000000)(ih:RowOk u m):∀(k j:Nat) (l:List Nd),j≤u.length→u.length - j≤m→u.length - j<k→l.length≤j+1→l≠[]→∃r,(at? u j=some 124→AltP u l (j+1) r)∧(at? u j≠some 124→r=.ok (z203 4 l,j))∧Bnd u j r∧
   ∀{n D f b r0:Nat} {S:List Nat} {h0 H:AHeap} {kc:List (List AV)} {kv:AV} {T0 T1:List zd7} {z:List AV} {k12:AV→AHeap→R} {Q:ARes→AHeap→Prop},4*m+8≤D→300<n→u.length+5<n→u.length - j<f→GrowT z22 6 kc kv T0→KidsT l kc T1→zbb z22 h0.ex=false→
    Mem S h0 H ((b,TRd,rdP u j)::(r0,z22,z)::(T0++T1))→
    (∀l' j kc kv T0 T1 H',l'≠[]→r=.ok (z203 4 l',j)→GrowT z22 6 kc kv T0→KidsT l' kc T1→Mem S h0 H' ((b,TRd,rdP u j)::(r0,z22,z)::(T0++T1))→Wp (k12 kv H') Q)→
    (∀e p H',r=.error e→Rd H' b u p→Tch S h0 H'→Q (.panic (z27b 6 e)) H')→
    Wp (z2e (world n D) (.ptr b 0) k12 f kv H) Q
 |0,_,_,_,_,hk,_,_=>by omega
 |k+1,j,l,hi,hm,hk,hli,hne=>by
  by_cases hst:at? u j=some 124
  ·obtain ⟨hp, _⟩ := at?_some hst
   obtain⟨r,r1,r2,r3⟩:=ih (j+1) (by omega) (by omega)
   cases r with
   |error e=>
    refine⟨.error e,fun _=>.bad r1,fun hh=>absurd hst hh,r2,?_⟩;intro n D f b r0 S h0 H kc kv T0 T1 z k12 Q hD hn hn2 hf g ks hex M hok hbad;obtain⟨D,rfl⟩:∃D',D=D'+8:=⟨D - 8,by omega⟩
    cases f with
    |zero=>omega
    |succ f=>
     rw[z39];unfold z25;have hs1:=z8f (n:=n) (d:=D+5) M.at0.1 M.at0.2.1 hi hu 124;rw[if_pos hst,decide_eq_true hst] at hs1;refine y3a hs1 M fun h1 M1=>?_;have hs:=r3 (n:=n) (D:=D+8) (by omega) hn hn2 M1.at0.1 M1.at0.2.1 (by rw[M1.ex];exact hex)
     repeat(with_reducible first|(apply Wp.obind;exact z5 _)|(refine y7 ?_ ?_;rfl))
     exact y2e hs M1 fun h' p k1 t1=>hbad e p h' rfl k1 t1
   |ok tj=>
    obtain⟨t,j2⟩:=tj;obtain⟨b1,b2⟩:=r2;obtain⟨r,q1,q2,q3,q4⟩:=z444 hu ih k j2 (l++[t]) b2 (by omega) (by omega) (by simp;omega) (by simp);refine⟨r,fun _=>?_,fun hh=>absurd hst hh,?_,?_⟩
    ·by_cases h2 : at? u j2 = some 124
     ·exact .more r1 h2 (q1 h2)
     ·rw [q2 h2]
      exact .last r1 h2
    ·cases r with
     |error e=>exact q3
     |ok tj2=>
      obtain⟨a1,a2⟩:=q3;exact⟨by omega,a2⟩
    ·intro n D f b r0 S h0 H kc kv T0 T1 z k12 Q hD hn hn2 hf g ks hex M hok hbad
     obtain⟨D,rfl⟩:∃D',D=D'+8:=⟨D - 8,by omega⟩
     cases f with
     |zero=>omega
     |succ f=>
      rw[z39];unfold z25;have hs1:=z8f (n:=n) (d:=D+5) M.at0.1 M.at0.2.1 hi hu 124;rw[if_pos hst,decide_eq_true hst] at hs1;refine y3a hs1 M fun h1 M1=>?_;have hs:=r3 (n:=n) (D:=D+8) (by omega) hn hn2 M1.at0.1 M1.at0.2.1 (by rw[M1.ex];exact hex)
      repeat(with_reducible first|(apply Wp.obind;exact z5 _)|(refine y7 ?_ ?_;rfl))
      refine y25 hs M1 fun c T h2 kt M3=>?_
      (((with_reducible apply Wp.obind);(with_reducible exact z11 _)))
      refine y43 M3 g ks kt hex (by omega) fun kv' h' T0' g' ks' M4=>?_;exact q4 hD hn hn2 (by omega) g' ks' hex M4 hok hbad
  ·refine ⟨.ok (z203 4 l, j), fun hh => absurd hh hst, fun _ => rfl, ⟨Nat.le_refl _, hi⟩, ?_⟩
   intro n D f b r0 S h0 H kc kv T0 T1 z k12 Q hD hn hn2 hf g ks hex M hok hbad;obtain⟨D,rfl⟩:∃D',D=D'+8:=⟨D - 8,by omega⟩
   cases f with
   |zero=>omega
   |succ f=>
    rw[z39];unfold z25;have hs1:=z8f (n:=n) (d:=D+5) M.at0.1 M.at0.2.1 hi hu 124;rw[if_neg hst,decide_eq_false hst] at hs1;refine y3a hs1 M fun h1 M1=>?_
    repeat(with_reducible first|(apply Wp.obind;exact z5 _)|(refine y6 ?_ ?_;rfl))
    exact hok l j kc kv T0 T1 h1 hne rfl g ks M1
theorem alt_ok(hu:u.length≤1000000)(ih:RowOk u m):AltOk u m:=by
 intro i hi hm;obtain⟨r,r1,r2,r3⟩:=ih i hi hm
 cases r with
 |error e=>
  refine⟨.error e,.bad r1,r2,?_⟩;intro n D b h hD hn hn2 k0 hb hx;obtain⟨D,rfl⟩:∃D',D=D'+9:=⟨D - 9,by omega⟩;refine StepN.err_of ?_;rw[zb3];unfold z26;refine y9 (Mem.one k0 hb) fun h1 Mx=>?_;have M1:=Mx.swap;have hs:=r3 (n:=n) (D:=D+8) (by omega) hn hn2 M1.at0.1 M1.at0.2.1 (by rw[M1.ex];exact hx);exact y2e hs M1 fun h' p k1 t1=>⟨rfl,p,k1,t1⟩
 |ok tj=>
  obtain⟨t,j⟩:=tj;obtain⟨b1,b2⟩:=r2;obtain⟨r,q1,q2,q3,q4⟩:=z444 hu ih (u.length+1) j [t] b2 (by omega) (by omega) (by simp) (by simp);refine⟨r,?_,?_,?_⟩
  ·by_cases h2 : at? u j = some 124
   ·exact .more (l:=[]) r1 h2 (q1 h2)
   ·rw [q2 h2]
    exact .last (l:=[]) r1 h2
  ·cases r with
   |error e=>exact q3
   |ok tj2=>
    obtain⟨a1,a2⟩:=q3;exact⟨by omega,a2⟩
  intro n D b h hD hn hn2 k0 hb hx;obtain⟨D,rfl⟩:∃D',D=D'+9:=⟨D - 9,by omega⟩;refine y36 fun Q o1 o2=>?_;rw[zb3];unfold z26;refine y9 (Mem.one k0 hb) fun h1 Mx=>?_;have M1:=Mx.swap;have hs:=r3 (n:=n) (D:=D+8) (by omega) hn hn2 M1.at0.1 M1.at0.2.1 (by rw[M1.ex];exact hx);refine y25 hs M1 fun c T h2 kt M3=>?_
  (((with_reducible apply Wp.obind);(with_reducible exact z11 _)))
  refine y32 M3 (kt.bld h2) kt.one hx fun h3 M4=>?_
  ((with_reducible refine y8 (fun _ _=>?_)))
  rename_i k12 ek12
  have M5:Mem [b] h h3 ((b,TRd,rdP u j)::(h.next,z22,[.int .i64 0,.int .u64 0,.int .u64 0,.int .u64 0,.int .u64 0,.nsl])::([(h2.next,z22,c)]++(T++[]))):=M4.perm (by
   rw[List.append_nil];exact List.perm_append_comm_assoc [_,_] [_] T)
  refine q4 (r0:=h.next) (by omega) hn hn2 (by omega) (z291 c h2.next kt.len kt.one) (KidsT.cons kt .nil) hx M5 ?_ o2;intro l' j' kc kv T0 T1 H' hne hr g ks M6;refine yd ek12 ?_;have hlen:=g.len;have hkl:=ks.len
  match l',hne,hr,ks,hkl with
  |[t'],_,hr,ks,hkl=>
   obtain⟨c',rfl,kt'⟩:=ks.one;obtain⟨q,rfl,rfl⟩:=z2c4 g;have ei:z1a8 6 (.sl q 0 1 6) 0=some (.ptr q 0):=idx0 q 0;have hl1:z17d (.sl q 0 1 6)=some 1:=rfl
   repeat(first|(with_reducible first|refine Wp.lett ?_|(apply Wp.obind;first|exact hl1|exact ei))|((with_reducible refine y7 ?_ ?_;apply z66);omega)|rw[ze])
   refine Wp.obind (y12 (Mem.at (xs:=[_,_]) M6).1 kt'.len) ?_;refine(z7f (z25b (xs:=[_,_]) (T0:=[_]) M6) rfl kt').mono ?_
   rintro _ h3 ⟨c3,T3,rfl,kt3,M7⟩
   exact o1 _ _ _ _ _ hr kt3 M7
  |t1::t2::ts,_,hr,ks,hkl=>
   simp only[List.length_cons] at hkl;have hl:=z1b8 (kv:=kv) (op:=4) z7c;have ho:=za0 (op:=4) (w:=z8e) g.one.1;obtain⟨h4,e4,t4⟩:=z41a (n:=n) (d:=D+7) (h:=H') g 4;have kt4:NodeT (z203 4 (t1::t2::ts)) (z8a 4 z8e kv) (T0++T1):=NodeT.mk z7c g ks;have e5:world n (D+8) 84 [.int .i64 4,kv] H'=some (.ret (.agg (z8a 4 z8e kv)),h4):=e4
   repeat(first|(with_reducible first|refine Wp.lett ?_|(apply Wp.obind;first|exact hlen|exact z11 _))|((with_reducible refine y6 ?_ ?_;apply z83);omega)|(with_reducible apply Wp.callN;exact e5)|rw[ze])
   refine(z7f (M6.keep t4) rfl kt4).mono ?_
   rintro _ h3 ⟨c3,T3,rfl,kt3,M7⟩
   exact o1 _ _ _ _ _ hr kt3 M7
theorem alts_ok(hu:u.length≤1000000):∀m,AltOk u m
 |0=>alt_ok hu (row_ok hu (z167 hu (atom_ok hu fun m' hm=>by omega)))
 | m + 1 => alt_ok hu (row_ok hu (z167 hu (atom_ok hu fun m' hm => by
   obtain rfl:m=m':=by omega
   exact alts_ok hu m)))
end
def z285(u:Bytes)(i:Nat):Res:=match at? u i with
 |none=>.error i
 |some c=>.ok (z3be c,i+1)
def z341(u:Bytes)(i:Nat):Res:=match at? u i with
 |none=>.error i
 | some c => if c = 42 then .ok (z385 5 [anyN], i + 1) else if c = 63 then .ok (anyN, i + 1) else if c = 92 then (match at? u (i + 1) with
   |none=>.error (i+1)
   |some e=>.ok (z3be e,i+2))
  else .ok (z3be c,i+1)
inductive FlatP (F:Nat→Res) (u:Bytes):List Nd→Nat→Res→Prop
 |stop {l:List Nd} {i:Nat} (s:u.length≤i):FlatP F u l i (.ok (z203 3 l,i))
 |bad {l:List Nd} {i q:Nat} (s:i<u.length) (h:F i=.error q):FlatP F u l i (.error q)
 |more {l:List Nd} {i j:Nat} {t:Nd} {r:Res} (s:i<u.length) (h:F i=.ok (t,j)) (m:FlatP F u (l++[t]) j r):FlatP F u l i r
def PartF(u:Bytes)(fid:Nat)(F:Nat→Res):Prop:=(∀i,i≤u.length→Bnd1 u i (F i))∧
 ∀{n D b i:Nat} {h:AHeap},4≤D→300<n→i≤u.length→Rd h b u i→b<h.next→zbb z22 h.ex=false→StepN b u h (world n D fid [.ptr b 0] h) (F i)
theorem dynL(call:zc)(b:Nat)(h:AHeap):z479 Tryd.prog call (AV.fn 78 [.ptr b 0] []) [] h=call 78 [.ptr b 0] h:=by
 have e:z3b4 Tryd.prog h [] (some (AV.fn 78 [.ptr b 0] []))=some (.call 78 [.ptr b 0],h):=by kernel_rfl
 unfold z479;rw[e]
theorem dynG(call:zc)(b:Nat)(h:AHeap):z479 Tryd.prog call (AV.fn 75 [.ptr b 0] []) [] h=call 75 [.ptr b 0] h:=by
 have e:z3b4 Tryd.prog h [] (some (AV.fn 75 [.ptr b 0] []))=some (.call 75 [.ptr b 0],h):=by kernel_rfl
 unfold z479;rw[e]
section
variable {n d b p q i m:Nat}{h h0:AHeap}{u:Bytes}{Q:ARes→AHeap→Prop}{S:List Nat}{xs rs T T0 T1:List zd7}{w:List Nat}{x:R}{t:Nd}{c:List AV}{v kv:AV}{l:List Nd}{kc:List (List AV)}
theorem partL_f(hu:u.length≤1000000):PartF u 78 (z285 u):=by
 refine⟨fun i hi=>?_,?_⟩
 ·unfold z285
  cases hc:at? u i with
  |none=>exact hi
  |some c=>
   obtain⟨hp,_⟩:=at?_some hc;exact⟨by omega,by omega⟩
 intro n D b i h hD hn hi k0 hb hx;obtain⟨D,rfl⟩:∃D',D=D'+4:=⟨D - 4,by omega⟩;unfold z285;cases hc:at? u i with
 |none=>
  refine StepN.err_of ?_;rw[zc5];unfold z29;refine y9 (Mem.one k0 hb) fun h1 Mx=>?_;have M1:=Mx.swap;have hs:=zaa (n:=n) (d:=D+1) M1.at0.1 M1.at0.2.1 hi hu;rw[hc] at hs;exact y4e hs M1 fun h' p k1 t1=>⟨rfl,p,k1,t1⟩
 |some c=>
  have h256:=at?_256 hc;refine StepN.ok_of ?_;rw[zc5];unfold z29;refine y9 (Mem.one k0 hb) fun h1 Mx=>?_;have M1:=Mx.swap;have hs:=zaa (n:=n) (d:=D+1) M1.at0.1 M1.at0.2.1 hi hu;rw[hc] at hs;refine y2a hs M1 fun h2 M2=>?_
  repeat(first|(with_reducible first|(apply Wp.obind;first|exact z4 _ _|exact z11 _)|(apply Wp.callN;exact z1b7 (d:=D+1) hn h256))|rw[ze])
  exact z7f M2 rfl (y23 2 (z120 1 z7c c))
theorem partG_f(hu:u.length≤1000000):PartF u 75 (z341 u):=by
 refine⟨fun i hi=>?_,?_⟩
 ·unfold z341
  cases hc:at? u i with
  |none=>exact hi
  |some c=>
   obtain⟨hp,_⟩:=at?_some hc;dsimp only
   split
   ·exact⟨by omega,by omega⟩
   ·split
    ·exact⟨by omega,by omega⟩
    ·split
     ·cases he : at? u (i + 1) with
      |none=>exact(by omega:i+1≤u.length)
      |some e=>
       obtain⟨hp2,_⟩:=at?_some he;exact⟨by omega,by omega⟩
     ·exact⟨by omega,by omega⟩
 intro n D b i h hD hn hi k0 hb hx;obtain⟨D,rfl⟩:∃D',D=D'+4:=⟨D - 4,by omega⟩;unfold z341;cases hc:at? u i with
 |none=>
  refine StepN.err_of ?_;rw[z31];unfold z1d;refine y9 (Mem.one k0 hb) fun h1 Mx=>?_;have M1:=Mx.swap;have hs:=zaa (n:=n) (d:=D+1) M1.at0.1 M1.at0.2.1 hi hu;rw[hc] at hs;exact y4e hs M1 fun h' p k1 t1=>⟨rfl,p,k1,t1⟩
 |some c=>
  obtain⟨hp,_⟩:=at?_some hc;have h256:=at?_256 hc;dsimp only
  by_cases h42:c=42
  ·rw [if_pos h42]
   refine StepN.ok_of ?_;rw[z31];unfold z1d;refine y9 (Mem.one k0 hb) fun h1 Mx=>?_;have M1:=Mx.swap;have hs:=zaa (n:=n) (d:=D+1) M1.at0.1 M1.at0.2.1 hi hu;rw[hc] at hs;refine y2a hs M1 fun h2 M2=>?_;have kt:NodeT anyN (z8a 2 anyW .nsl) []:=y23 2 z361
   repeat(first|(with_reducible first|refine Wp.lett ?_|(apply Wp.obind;first|exact z4 _ _|exact z11 _))|((with_reducible refine y7 ?_ ?_;apply z66);omega)|(with_reducible apply Wp.callN;exact z2d9 (d:=D+1) hn)|rw[ze])
   refine y32 M2 (kt.bld h2) kt.one hx fun h3 M3=>?_;obtain⟨h4,e4,t4⟩:=z41a (n:=n) (d:=D+2) (h:=h3) (z291 _ h2.next kt.len kt.one) 5;refine Wp.callN e4 ?_;have M4:=M3.keep t4;refine Wp.obind (z11 _) ?_;have M5:Mem [b] h h4 ((b,TRd,rdP u (i+1))::(h.next,z22,[.int .i64 0,.int .u64 0,.int .u64 0,.int .u64 0,.int .u64 0,.nsl])::([(h2.next,z22,z8a 2 anyW .nsl)]++([]++[]))):=M4.perm (List.perm_append_comm (l₁:=[_,_]) (l₂:=[_]));exact z7f M5 rfl (signed kt 5 h2.next)
  rw[if_neg h42]
  by_cases h63:c=63
  ·rw [if_pos h63]
   refine StepN.ok_of ?_;rw[z31];unfold z1d;refine y9 (Mem.one k0 hb) fun h1 Mx=>?_;have M1:=Mx.swap;have hs:=zaa (n:=n) (d:=D+1) M1.at0.1 M1.at0.2.1 hi hu;rw[hc] at hs;refine y2a hs M1 fun h2 M2=>?_
   repeat(first|(with_reducible first|refine Wp.lett ?_|(apply Wp.obind;first|exact z4 _ _|exact z11 _))|((with_reducible refine y7 ?_ ?_;apply z66);omega)|((with_reducible refine y6 ?_ ?_;apply z83);omega)|(with_reducible apply Wp.callN;exact z2d9 (d:=D+1) hn)|rw[ze])
   exact z7f M2 rfl (y23 2 z361)
  rw[if_neg h63]
  by_cases h92:c=92
  ·rw [if_pos h92]
   cases he:at? u (i+1) with
   |none=>
    refine StepN.err_of ?_;rw[z31];unfold z1d;refine y9 (Mem.one k0 hb) fun h1 Mx=>?_;have M1:=Mx.swap;have hs:=zaa (n:=n) (d:=D+1) M1.at0.1 M1.at0.2.1 hi hu;rw[hc] at hs;refine y2a hs M1 fun h2 M2=>?_;have hs2:=zaa (n:=n) (d:=D+1) M2.at0.1 M2.at0.2.1 (by omega) hu;rw[he] at hs2
    repeat(first|(with_reducible first|refine Wp.lett ?_|(apply Wp.obind;exact z4 _ _))|((with_reducible refine y7 ?_ ?_;apply z66);omega)|((with_reducible refine y6 ?_ ?_;apply z83);omega)|rw[ze])
    exact y4e hs2 M2 fun h' p k1 t1=>⟨rfl,p,k1,t1⟩
   |some e=>
    refine StepN.ok_of ?_;rw[z31];unfold z1d;refine y9 (Mem.one k0 hb) fun h1 Mx=>?_;have M1:=Mx.swap;have hs:=zaa (n:=n) (d:=D+1) M1.at0.1 M1.at0.2.1 hi hu;rw[hc] at hs;refine y2a hs M1 fun h2 M2=>?_;have hs2:=zaa (n:=n) (d:=D+1) M2.at0.1 M2.at0.2.1 (by omega) hu;rw[he] at hs2
    repeat(first|(with_reducible first|refine Wp.lett ?_|(apply Wp.obind;exact z4 _ _))|((with_reducible refine y7 ?_ ?_;apply z66);omega)|((with_reducible refine y6 ?_ ?_;apply z83);omega)|rw[ze])
    refine y2a hs2 M2 fun h3 M3=>?_
    repeat(with_reducible first|(apply Wp.obind;first|exact z4 _ _|exact z11 _)|(apply Wp.callN;exact z1b7 (d:=D+1) hn (at?_256 he)))
    exact z7f M3 rfl (y23 2 (z120 1 z7c e))
  rw[if_neg h92];refine StepN.ok_of ?_;rw[z31];unfold z1d;refine y9 (Mem.one k0 hb) fun h1 Mx=>?_;have M1:=Mx.swap;have hs:=zaa (n:=n) (d:=D+1) M1.at0.1 M1.at0.2.1 hi hu;rw[hc] at hs;refine y2a hs M1 fun h2 M2=>?_
  repeat(first|(with_reducible first|refine Wp.lett ?_|(apply Wp.obind;first|exact z4 _ _|exact z11 _))|((with_reducible refine y6 ?_ ?_;apply z83);omega)|(with_reducible apply Wp.callN;exact z1b7 (d:=D+1) hn h256)|rw[ze])
  exact z7f M2 rfl (y23 2 (z120 1 z7c c))
theorem z3ab{fid:Nat}{F:Nat→Res}(hu:u.length≤1000000)(hF:PartF u fid F)(hdyn:∀(call:zc) (b:Nat) (h:AHeap),z479 Tryd.prog call (AV.fn fid [.ptr b 0] []) [] h=call fid [.ptr b 0] h):∀(k i:Nat) (l:List Nd),i≤u.length→u.length - i<k→l.length≤i→∃r,FlatP F u l i r∧Bnd u i r∧
   ∀{n D f b r0:Nat} {S:List Nat} {h0 H:AHeap} {kc:List (List AV)} {kv:AV} {T0 T1:List zd7} {z:List AV} {k7:AV→AHeap→R} {Q:ARes→AHeap→Prop},4≤D→300<n→u.length - i<f→GrowT z22 6 kc kv T0→KidsT l kc T1→zbb z22 h0.ex=false→
    Mem S h0 H ((b,TRd,rdP u i)::(r0,z22,z)::(T0++T1))→
    (∀l' j kc kv T0 T1 H',r=.ok (z203 3 l',j)→GrowT z22 6 kc kv T0→KidsT l' kc T1→Mem S h0 H' ((b,TRd,rdP u j)::(r0,z22,z)::(T0++T1))→Wp (k7 kv H') Q)→
    (∀e p H',r=.error e→Rd H' b u p→Tch S h0 H'→Q (.panic (z27b 6 e)) H')→
    Wp (z67 (world n D) (.ptr b 0) (AV.fn fid [.ptr b 0] []) k7 f kv H) Q
 |0,_,_,_,hk,_=>by omega
 |k+1,i,l,hi,hk,hli=>by
  by_cases hst:u.length≤i
  ·refine ⟨_, .stop hst, ⟨Nat.le_refl _, hi⟩, ?_⟩
   intro n D f b r0 S h0 H kc kv T0 T1 z k7 Q hD hn hf g ks hex M hok hbad;obtain⟨D,rfl⟩:∃D',D=D'+4:=⟨D - 4,by omega⟩
   cases f with
   |zero=>omega
   |succ f=>
    have he:=z16c (n:=n) (d:=D+3) M.at0.1;have hfin:=hok l i kc kv T0 T1 H rfl g ks M;rw[z7d];unfold z43;rw[decide_eq_true (by omega)] at he
    repeat(with_reducible first|refine Wp.lett ?_|(apply Wp.obind;exact z5 _)|(refine y6 ?_ ?_;exact Bool.not_true)|(apply Wp.callN;assumption))
    exact hfin
  ·have hb1 := hF.1 i hi
   cases hr:F i with
   |error e=>
    rw[hr] at hb1;refine⟨_,.bad (by omega) hr,hb1,?_⟩;intro n D f b r0 S h0 H kc kv T0 T1 z k7 Q hD hn hf g ks hex M hok hbad;obtain⟨D,rfl⟩:∃D',D=D'+4:=⟨D - 4,by omega⟩
    cases f with
    |zero=>omega
    |succ f=>
     have he:=z16c (n:=n) (d:=D+3) M.at0.1;rw[decide_eq_false (by omega)] at he;have hs:=hF.2 (n:=n) (D:=D+4) (by omega) hn hi M.at0.1 M.at0.2.1 (by rw[M.ex];exact hex);rw[hr] at hs;rw[z7d];unfold z43
     repeat(first|(with_reducible first|refine Wp.lett ?_|(apply Wp.obind;exact z5 _)|(refine y7 ?_ ?_;exact Bool.not_false))|((with_reducible first|apply Wp.callN|apply Wp.callK);(with_reducible assumption)))
     rw[hdyn];exact y2e hs M fun h' p k1 t1=>hbad e p h' rfl k1 t1
   |ok tj=>
    obtain⟨t,j⟩:=tj;rw[hr] at hb1;obtain⟨b1,b2⟩:=hb1;obtain⟨r,q1,q2,q3⟩:=z3ab hu hF hdyn k j (l++[t]) b2 (by omega) (by simp;omega);refine⟨r,.more (by omega) hr q1,?_,?_⟩
    ·cases r with
     |error e=>exact q2
     |ok tj2=>
      obtain⟨a1,a2⟩:=q2;exact⟨by omega,a2⟩
    ·intro n D f b r0 S h0 H kc kv T0 T1 z k7 Q hD hn hf g ks hex M hok hbad
     obtain⟨D,rfl⟩:∃D',D=D'+4:=⟨D - 4,by omega⟩
     cases f with
     |zero=>omega
     |succ f=>
      have he:=z16c (n:=n) (d:=D+3) M.at0.1;rw[decide_eq_false (by omega)] at he;have hs:=hF.2 (n:=n) (D:=D+4) (by omega) hn hi M.at0.1 M.at0.2.1 (by rw[M.ex];exact hex);rw[hr] at hs;rw[z7d];unfold z43
      repeat(first|(with_reducible first|refine Wp.lett ?_|(apply Wp.obind;exact z5 _)|(refine y7 ?_ ?_;exact Bool.not_false))|((with_reducible first|apply Wp.callN|apply Wp.callK);(with_reducible assumption)))
      rw[hdyn];refine y25 hs M fun c T h2 kt M3=>?_
      (((with_reducible apply Wp.obind);(with_reducible exact z11 _)))
      refine y43 M3 g ks kt hex (by omega) fun kv' h' T0' g' ks' M4=>?_;exact q3 hD hn (by omega) g' ks' hex M4 hok hbad
theorem flat_ok{fid:Nat}{F:Nat→Res}(hu:u.length≤1000000)(hF:PartF u fid F)(hdyn:∀(call:zc) (b:Nat) (h:AHeap),z479 Tryd.prog call (AV.fn fid [.ptr b 0] []) [] h=call fid [.ptr b 0] h):∃r,FlatP F u [] 0 r∧Bnd u 0 r∧
  ∀{n D b:Nat} {h:AHeap},5≤D→300<n→u.length<n→Rd h b u 0→b<h.next→zbb z22 h.ex=false→StepN b u h (world n D 74 [.ptr b 0,AV.fn fid [.ptr b 0] []] h) r:=by
 obtain⟨r,r1,r2,r3⟩:=z3ab hu hF hdyn (u.length+1) 0 [] (Nat.zero_le _) (by omega) (Nat.le_refl _);refine⟨r,r1,r2,?_⟩;intro n D b h hD hn hn2 k0 hb hx;obtain⟨D,rfl⟩:∃D',D=D'+5:=⟨D - 5,by omega⟩;refine y36 fun Q q1 q2=>?_;rw[z1db];unfold z6f;refine y9 (Mem.one k0 hb) fun h1 Mx=>?_;rw[ze];have M1:=Mx.swap
 ((with_reducible refine y8 (fun _ _=>?_)))
 rename_i k7 ek7;refine r3 (r0:=h.next) (by omega) hn (by omega) (GrowT.nil _ _) .nil hx M1 ?_ q2;intro l' j kc kv T0 T1 H' hr g ks M2;refine yd ek7 ?_;obtain⟨c,T,h2,e2,kt,M3⟩:=inRow_r (n:=n) (d:=D+2) (xs:=[_,_]) M2 g ks
 repeat(with_reducible first|(apply Wp.obind;exact z11 _)|(apply Wp.callN;assumption))
 refine(z7f M3 rfl kt).mono ?_
 rintro _ h3 ⟨c3,T3,rfl,kt3,M4⟩
 exact q1 _ _ _ _ _ hr kt3 M4
end
def dropJ:Res→Except Nat Nd
 | .ok (t,_)=>.ok t
 | .error q=>.error q
inductive TreeP (u:Bytes):Int→Except Nat Nd→Prop
 |lit {r:Res} (h:FlatP (z285 u) u [] 0 r):TreeP u 1 (dropJ r)
 |glob {r:Res} (h:FlatP (z341 u) u [] 0 r):TreeP u 2 (dropJ r)
 |re_bad {q:Nat} (h:AltP u [] 0 (.error q)):TreeP u 3 (.error q)
 |re_end {t:Nd} {j:Nat} (h:AltP u [] 0 (.ok (t,j))) (n:j≠u.length):TreeP u 3 (.error j)
 |re {t:Nd} (h:AltP u [] 0 (.ok (t,u.length))):TreeP u 3 (.ok t)
def StepT(b:Nat)(u:Bytes)(h:AHeap)(x:R):Except Nat Nd→Prop
 | .ok t=>∃c T h' p,x=some (.ret (.agg c),h')∧NodeT t c T∧Mem [b] h h' ((b,TRd,rdP u p)::T)
 | .error q=>∃h' p,x=some (.panic (z27b 6 q),h')∧Rd h' b u p∧Tch [b] h h'
section
variable {n d b p q i m:Nat}{h h0:AHeap}{u:Bytes}{Q:ARes→AHeap→Prop}{S:List Nat}{xs rs T T0 T1:List zd7}{w:List Nat}{x:R}{t:Nd}{c:List AV}{v kv:AV}{l:List Nd}{kc:List (List AV)}
theorem StepT.ok_of(kk:Wp x fun r h'=>∃c T p,r=.ret (.agg c)∧NodeT t c T∧Mem [b] h h' ((b,TRd,rdP u p)::T)):StepT b u h x (.ok t):=by
 obtain⟨_,h',e,c,T,p,rfl,k1,k2⟩:=kk;exact⟨c,T,h',p,e,k1,k2⟩
theorem StepT.err_of(kk:Wp x fun r h'=>r=.panic (z27b 6 q)∧∃p,Rd h' b u p∧Tch [b] h h'):StepT b u h x (.error q):=by
 obtain⟨_,h',e,rfl,p,k1,k2⟩:=kk;exact⟨h',p,e,k1,k2⟩
theorem end_r(k:Rd h b u p)(hp:p=u.length):world n (d+2) 77 [.ptr b 0] h=some (.ret (.tup []),h):=by
 have he:=z16c (n:=n) (d:=d) k;rw[decide_eq_true hp] at he;apply Wp.eq;rw[z134];unfold z52
 repeat(with_reducible first|refine yf (fun _ _=>?_)|refine Wp.lett ?_|(apply Wp.obind;exact z5 _)|(refine y6 ?_ ?_;exact Bool.not_true)|(apply Wp.callN;assumption)|refine y26 (by assumption) ?_)
 exact Wp.ret ⟨rfl,rfl⟩
theorem end_bad(k:Rd h b u p)(hp:p≠u.length):world n (d+2) 77 [.ptr b 0] h=some (.panic (z27b 6 p),h):=by
 have he:=z16c (n:=n) (d:=d) k;rw[decide_eq_false hp] at he;apply Wp.eq;rw[z134];unfold z52;have hr:=z28e (n:=n) (d:=d) (h:=h) 6 p;have k0:RowH h b 112 [strA u,.int .i64 (p:Int)]:=k;clear k
 repeat(first|(with_reducible first|refine yf (fun _ _=>?_)|refine Wp.lett ?_)|((with_reducible apply Wp.obind);first|(with_reducible first|exact z4 _ _|exact z5 _|exact z10 _ _|exact z8 _ _ _)|((with_reducible apply y5);(with_reducible assumption);rfl))|(with_reducible refine y7 ?_ ?_;exact Bool.not_false)|((with_reducible first|apply Wp.callN|apply Wp.callK);(with_reducible assumption)))
 exact y18 hr ⟨rfl,rfl⟩
theorem z481(hu:u.length≤1000000)(kind:Int)(hk:kind=1∨kind=2∨kind=3):∃r,TreeP u kind r∧(∀q,r=.error q→q≤u.length)∧
  ∀{n D b:Nat} {h:AHeap},4*u.length+12≤D→300<n→u.length+5<n→Rd h b u 0→b<h.next→zbb z22 h.ex=false→StepT b u h (world n D 56 [.ptr b 0,.int .i64 kind] h) r:=by
 rcases hk with rfl|rfl|rfl
 ·obtain ⟨r, r1, r2, r3⟩ := flat_ok hu (partL_f hu) dynL
  refine⟨_,.lit r1,?_,?_⟩
  ·intro q hh
   cases r with
   |error e=>
    cases hh;exact r2
   |ok tj=>cases hh
  ·intro n D b h hD hn hn2 k0 hb hx
   obtain⟨D,rfl⟩:∃D',D=D'+6:=⟨D - 6,by omega⟩
   cases r with
   |error e=>
    refine StepT.err_of ?_;rw[z3a];unfold z21;refine y9 (Mem.one k0 hb) fun h1 Mx=>?_;have M1:=Mx.swap;have hs:=r3 (n:=n) (D:=D+5) (by omega) hn (by omega) M1.at0.1 M1.at0.2.1 (by rw[M1.ex];exact hx)
    repeat(first|(with_reducible refine Wp.lett ?_)|((with_reducible refine y6 ?_ ?_;apply z83);omega)|rw[ze])
    exact y2e hs M1 fun h' p k1 t1=>⟨rfl,p,k1,t1⟩
   |ok tj=>
    obtain⟨t,j⟩:=tj;refine StepT.ok_of ?_;rw[z3a];unfold z21;refine y9 (Mem.one k0 hb) fun h1 Mx=>?_;have M1:=Mx.swap;have hs:=r3 (n:=n) (D:=D+5) (by omega) hn (by omega) M1.at0.1 M1.at0.2.1 (by rw[M1.ex];exact hx)
    repeat(first|(with_reducible refine Wp.lett ?_)|((with_reducible refine y6 ?_ ?_;apply z83);omega)|rw[ze])
    refine y25 hs M1 fun c T h2 kt M3=>?_
    (((with_reducible apply Wp.obind);(with_reducible exact z11 _)))
    refine(z7f M3 rfl kt).mono ?_
    rintro _ h3 ⟨c3,T3,rfl,kt3,M4⟩
    exact⟨c3,T3,j,rfl,kt3,M4⟩
 ·obtain ⟨r, r1, r2, r3⟩ := flat_ok hu (partG_f hu) dynG
  refine⟨_,.glob r1,?_,?_⟩
  ·intro q hh
   cases r with
   |error e=>
    cases hh;exact r2
   |ok tj=>cases hh
  ·intro n D b h hD hn hn2 k0 hb hx
   obtain⟨D,rfl⟩:∃D',D=D'+6:=⟨D - 6,by omega⟩
   cases r with
   |error e=>
    refine StepT.err_of ?_;rw[z3a];unfold z21;refine y9 (Mem.one k0 hb) fun h1 Mx=>?_;have M1:=Mx.swap;have hs:=r3 (n:=n) (D:=D+5) (by omega) hn (by omega) M1.at0.1 M1.at0.2.1 (by rw[M1.ex];exact hx)
    repeat(first|(with_reducible refine Wp.lett ?_)|((with_reducible refine y7 ?_ ?_;apply z66);omega)|rw[ze])
    exact y2e hs M1 fun h' p k1 t1=>⟨rfl,p,k1,t1⟩
   |ok tj=>
    obtain⟨t,j⟩:=tj;refine StepT.ok_of ?_;rw[z3a];unfold z21;refine y9 (Mem.one k0 hb) fun h1 Mx=>?_;have M1:=Mx.swap;have hs:=r3 (n:=n) (D:=D+5) (by omega) hn (by omega) M1.at0.1 M1.at0.2.1 (by rw[M1.ex];exact hx)
    repeat(first|(with_reducible refine Wp.lett ?_)|((with_reducible refine y7 ?_ ?_;apply z66);omega)|rw[ze])
    refine y25 hs M1 fun c T h2 kt M3=>?_
    (((with_reducible apply Wp.obind);(with_reducible exact z11 _)))
    refine(z7f M3 rfl kt).mono ?_
    rintro _ h3 ⟨c3,T3,rfl,kt3,M4⟩
    exact⟨c3,T3,j,rfl,kt3,M4⟩
 ·obtain ⟨r, r1, r2, r3⟩ := alts_ok hu u.length 0 (Nat.zero_le _) (by omega)
  cases r with
  |error e=>
   refine⟨_,.re_bad r1,fun q hh=>by cases hh;exact r2,?_⟩;intro n D b h hD hn hn2 k0 hb hx;obtain⟨D,rfl⟩:∃D',D=D'+6:=⟨D - 6,by omega⟩;refine StepT.err_of ?_;rw[z3a];unfold z21;refine y9 (Mem.one k0 hb) fun h1 Mx=>?_;have M1:=Mx.swap;have hs:=r3 (n:=n) (D:=D+5) (by omega) hn hn2 M1.at0.1 M1.at0.2.1 (by rw[M1.ex];exact hx)
   repeat(first|(with_reducible refine Wp.lett ?_)|((with_reducible refine y7 ?_ ?_;apply z66);omega)|((with_reducible refine y6 ?_ ?_;apply z83);omega)|rw[ze])
   exact y2e hs M1 fun h' p k1 t1=>⟨rfl,p,k1,t1⟩
  |ok tj=>
   obtain⟨t,j⟩:=tj
   by_cases hj:j=u.length
   ·subst hj
    refine⟨_,.re r1,fun q hh=>(by cases hh),?_⟩;intro n D b h hD hn hn2 k0 hb hx;obtain⟨D,rfl⟩:∃D',D=D'+6:=⟨D - 6,by omega⟩;refine StepT.ok_of ?_;rw[z3a];unfold z21;refine y9 (Mem.one k0 hb) fun h1 Mx=>?_;have M1:=Mx.swap;have hs:=r3 (n:=n) (D:=D+5) (by omega) hn hn2 M1.at0.1 M1.at0.2.1 (by rw[M1.ex];exact hx)
    repeat(first|(with_reducible refine Wp.lett ?_)|((with_reducible refine y7 ?_ ?_;apply z66);omega)|((with_reducible refine y6 ?_ ?_;apply z83);omega)|rw[ze])
    refine y25 hs M1 fun c T h2 kt M3=>?_
    (((with_reducible apply Wp.obind);(with_reducible exact z11 _)))
    refine y9 M3 fun h3 M4=>?_;rw[ze];refine y10 M4 kt.len rfl kt.one fun h4 M5=>?_;have he:=end_r (n:=n) (d:=D+3) M5.at1.1 rfl;refine Wp.callK he ?_;refine y15 M5 kt.len ?_;refine(z7f (z25b (xs:=[_]) (T0:=[_]) M5.swap) rfl kt).mono ?_
    rintro _ h3 ⟨c3,T3,rfl,kt3,M6⟩
    exact⟨c3,T3,_,rfl,kt3,M6⟩
   ·refine ⟨_, .re_end r1 hj, fun q hh => by cases hh; exact r2.2, ?_⟩
    intro n D b h hD hn hn2 k0 hb hx;obtain⟨D,rfl⟩:∃D',D=D'+6:=⟨D - 6,by omega⟩;refine StepT.err_of ?_;rw[z3a];unfold z21;refine y9 (Mem.one k0 hb) fun h1 Mx=>?_;have M1:=Mx.swap;have hs:=r3 (n:=n) (D:=D+5) (by omega) hn hn2 M1.at0.1 M1.at0.2.1 (by rw[M1.ex];exact hx)
    repeat(first|(with_reducible refine Wp.lett ?_)|((with_reducible refine y7 ?_ ?_;apply z66);omega)|((with_reducible refine y6 ?_ ?_;apply z83);omega)|rw[ze])
    refine y25 hs M1 fun c T h2 kt M3=>?_
    (((with_reducible apply Wp.obind);(with_reducible exact z11 _)))
    refine y9 M3 fun h3 M4=>?_;rw[ze];refine y10 M4 kt.len rfl kt.one fun h4 M5=>?_;have he:=end_bad (n:=n) (d:=D+3) M5.at1.1 hj;exact y18 he ⟨rfl,_,M5.at1.1,M5.tch⟩
end
end Go.Proofs.YtcahhjjnihipdaaDoor
