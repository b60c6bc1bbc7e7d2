/- What nfaRuns_proved stands on, part 9 of 11. -/
import Derived.Test.YtakhljnkmbpmpaaDoorCr8
namespace Go.Proofs.YtakhljnkmbpmpaaDoor
open Go.RowKit Abs
set_option maxHeartbeats 4000000
set_option maxRecDepth 20000
noncomputable def zc0(call:zf)(t0:z11)(h:AHeap)(self:Int→AV→AHeap→R)(t1_7:Int)(t7:AV)(h_8:AHeap):R:=callN (call 46 [z12 t0,.int .i64 t1_7] h_8) fun r14 h_11=>obind (z18e 0 r14) fun v15=>obind (z4f v15) fun t15=>obind (z18e 1 r14) fun v16=>obind (z2c .i64 v16) fun t16=>obind (z18e 2 r14) fun v17=>obind (z1a v17) fun t17=>lett (newH h_11 34 [.int .i64 0,.int .u64 0,.int .u64 0,.int .u64 0,.int .u64 0,.nsl]) fun h_19=>obind (z16 h_19 6 t15 (z7 h_11)) fun h_21=>lett (!t17) fun (t19:Bool)=>ifB t19 (obind (z16 h_21 6 ([.int .i64 0,.int .u64 0,.int .u64 0,.int .u64 0,.int .u64 0,.nsl]:List AV) (z7 h)) fun h_27=>obind (z15 h_27 6 (z7 h)) fun w4=>some (.ret (.tup [.agg w4,.int .i64 t16,.bool false]),h_27)) (obind (z15 h_21 6 (z7 h_11)) fun t23=>outK (z122 Pg h_21 32 1 [(0,.agg t23)]) fun v24 h_32=>outK (z5e Pg h_32 32 32 t7 v24) fun v25 h_34=>lett ((t16:Int) == (z7b t0)) fun (t29:Bool)=>lett (fun (t35:Bool) (h_39:AHeap)=>ifB t35 (callN (call 44 [.int .i64 4,v25] h_39) fun r37 h_43=>obind (z4f r37) fun t37=>obind (z16 h_43 6 t37 (z7 h)) fun h_46=>obind (z15 h_46 6 (z7 h)) fun w4_49=>some (.ret (.tup [.agg w4_49,.int .i64 t16,.bool true]),h_46)) (lett (IntKind.i64.wrap (t16+1)) fun (t40:Int)=>self t40 v25 h_39)) fun j35=>ifB t29 (j35 true h_34) (obind (z1a2 t0 t16) fun t33=>lett ((t33:Int) != 124) fun (t34:Bool)=>j35 t34 h_34))
noncomputable def z117(call:zf)(t0:z11)(h:AHeap):Nat→Int→AV→AHeap→R:=zbd (fun _ _ _=>none) (zc0 call t0 h)
theorem z116(call:zf)(t0:z11)(h:AHeap)(m:Nat):z117 call t0 h (m+1)=zc0 call t0 h (z117 call t0 h m):=rfl
noncomputable def z164(call:zf)(n:Nat)(t0:z11)(t1:Int)(h:AHeap):R:=lett (newH h 34 [.int .i64 0,.int .u64 0,.int .u64 0,.int .u64 0,.int .u64 0,.nsl]) fun h_2=>z117 call t0 h n t1 AV.nsl h_2
theorem z35c{call:zf}(hc:SaysAll Pg call){n:Nat}{t0:z11}{t1:Int}{h:AHeap}{rR:ARes}{hR:AHeap}(z:z164 call n t0 t1 h=some (rR,hR)):Says Pg 30 [z12 t0,.int .i64 t1] h rR hR:=by
 unfold z164 at z;refine sO Tryd.func30 fun w0 m0=>?_;refine wW [(0,z12 t0),(1,.int .i64 t1)] ?_;refine oG fun n1=>W.r ?_;refine oN 4 z fun h_2 z=>?_;refine oA 5 (.int .i64 0) ?_;refine oA 6 (.bool false) ?_;refine oV [(0,z12 t0),(1,.int .i64 t1),(4,z7 h)] (n1 ?_);refine oG fun n4=>W.r ?_;refine oA 7 AV.nsl ?_;refine oV [(0,z12 t0),(1,.int .i64 t1),(4,z7 h),(7,AV.nsl)] (n4 ?_);refine ye (by kernel_rfl) (fun K5 n5 s5 o5 q5 p5=>?_);refine y17 (by kernel_rfl) (fun I6 K6 b6 n6 e6 q6 p6=>?_)
 have L6:∀(m:Nat) (t1_7:Int) (t7:AV) (h_8:AHeap),z117 call t0 h m t1_7 t7 h_8=some (rR,hR)→Go w0 m0 (Func.ntmps Tryd.f30) I6 [(0,z12 t0),(1,.int .i64 t1_7),(4,z7 h),(7,t7)] [] h_8:=by
  intro m
  induction m with
  |zero=>intro t1_7 t7 h_8 z;cases z
  |succ m ih6=>
   intro t1_7 t7 h_8 z;rw[z116] at z;unfold zc0 at z;refine b6 ?_;refine ye (by kernel_rfl) (fun K9 n9 s9 o9 q9 p9=>?_);refine oG fun n10=>W.r ?_;refine oA 12 (z12 t0) ?_;refine oA 13 (.int .i64 t1_7) ?_;refine oC hc (some 14) z fun r14 h_11 z=>?_;refine oA 11 r14 ?_;refine oEa 15 z fun t15 z=>?_;refine oEi 16 z fun t16 z=>?_;refine oEb 17 z fun t17 z=>?_;refine oN 8 z fun h_19 z=>?_;refine oW 34 (.agg t15) z fun h_21 z=>?_;refine oA 9 (.int .i64 t16) ?_;refine oA 10 (.bool t17) ?_;refine oV [(0,z12 t0),(4,z7 h),(7,t7),(8,z7 h_11),(9,.int .i64 t16),(10,.bool t17)] (n10 ?_);refine oH fun n23 q23=>?_;refine oG fun n24=>W.r ?_;refine oA 18 (.bool t17) ?_;refine oB 19 z fun t19 z=>?_;refine oV [(0,z12 t0),(4,z7 h),(7,t7),(8,z7 h_11),(9,.int .i64 t16),(19,.bool t19)] (n24 ?_)
   cases t19 with
   |true=>
    refine oT z fun z=>?_;refine oG fun n26=>W.r ?_;refine oA 20 (.agg ([.int .i64 0,.int .u64 0,.int .u64 0,.int .u64 0,.int .u64 0,.nsl]:List AV)) ?_;refine oA 21 (.int .i64 t16) ?_;refine oW 34 (.agg ([.int .i64 0,.int .u64 0,.int .u64 0,.int .u64 0,.int .u64 0,.nsl]:List AV)) z fun h_27 z=>?_;refine oA 5 (.int .i64 t16) ?_;refine oA 6 (.bool false) ?_;refine oV [(4,z7 h),(5,.int .i64 t16),(6,.bool false)] (n26 (oY (q23 (q9 (q6 (q5 ?_))))));obtain⟨w4,e29,z⟩:=oS z;exact lZ z [.cell 4 34,.tmp 5,.tmp 6] [.agg w4,.int .i64 t16,.bool false] (rY e29 (rT (rT zd)))
   |false=>
    refine oU z fun z=>?_;refine oZ (n23 ?_);refine oG fun n30=>W.r ?_;refine oA 22 t7 ?_;refine oR 23 34 z fun t23 z=>?_;refine oK 24 z fun v24 h_32 z=>?_;refine oK 25 z fun v25 h_34 z=>?_;refine oA 7 v25 ?_;refine oV [(0,z12 t0),(4,z7 h),(7,v25),(9,.int .i64 t16)] (n30 ?_);refine oH fun n36 q36=>?_;refine W.s (fun K37 n37 _ _ _=>?_);refine W.r ?_;refine oA 26 (.int .i64 t16) ?_;refine oA 27 (z12 t0) ?_;refine oA 28 (.int .i64 (z7b t0)) ?_;refine oB 29 z fun t29 z=>?_;refine oA 30 (.bool t29) ?_;obtain⟨j35,e40,z⟩:=lS z
    have J41:∀(t35:Bool) (h_39:AHeap),j35 t35 h_39=some (rR,hR)→WL Pg w0 m0 (Func.ntmps Tryd.f30) (y13 (y9 (y9 (y6 (y6 (y6 (y9 (y9 (y9 (y6 (y6 (z5f Tryd.f30)))))))))))) 10 K37 [(0,z12 t0),(4,z7 h),(7,v25),(9,.int .i64 t16),(35,.bool t35)] [] h_39:=by
     intro t35 h_39 z;rw[e40] at z;refine oV [(0,z12 t0),(4,z7 h),(7,v25),(9,.int .i64 t16),(35,.bool t35)] (n37 ?_)
     cases t35 with
     |true=>
      refine oT z fun z=>?_;refine oG fun n42=>W.r ?_;refine oA 36 v25 ?_;refine oCa hc 37 z fun t37 h_43 z=>?_;refine oA 38 (.int .i64 t16) ?_;refine oW 34 (.agg t37) z fun h_46 z=>?_;refine oA 5 (.int .i64 t16) ?_;refine oA 6 (.bool true) ?_;refine oV [(4,z7 h),(5,.int .i64 t16),(6,.bool true)] (n42 (oY (q36 (q9 (q6 (q5 ?_))))));obtain⟨w4_49,e48,z⟩:=oS z;exact lZ z [.cell 4 34,.tmp 5,.tmp 6] [.agg w4_49,.int .i64 t16,.bool true] (rY e48 (rT (rT zd)))
     |false=>
      refine oU z fun z=>?_;refine oZ (n36 (W.r ?_));refine oA 39 (.int .i64 t16) ?_;refine oI 40 .i64 z fun t40 z=>?_;refine oA 1 (.int .i64 t40) ?_;refine oV [(0,z12 t0),(1,.int .i64 t40),(4,z7 h),(7,v25)] (n9 (n6 ?_));exact gW _ (ih6 _ _ _ z)
    cases t29 with
    |true=>
     replace z:=z8f z
     refine WL.o (some 31) ?_;refine WL.o (some 32) ?_;refine WL.o (some 33) ?_;refine WL.o (some 34) ?_;refine oA 35 (.bool true) ?_;exact lW _ (J41 _ _ z)
    |false=>
     replace z:=z90 z
     refine oA 31 (z12 t0) ?_;refine oA 32 (.int .i64 t16) ?_;refine oX 33 9 .i64 z fun t33 z=>?_;refine oB 34 z fun t34 z=>?_;refine oA 35 (.bool t34) ?_;exact lW _ (J41 _ _ z)
 exact gW _ (L6 _ _ _ _ z)
noncomputable def zaf(call:zf)(t0:z11)(h:AHeap)(k7:Int→AV→AHeap→R)(self:Int→AV→AHeap→R)(t1_18:Int)(t7_19:AV)(h_20:AHeap):R:=lett (decide (t1_18<(z7b t0))) fun (t15:Bool)=>lett (fun (t21:Bool) (h_24:AHeap)=>lett (fun (t27:Bool) (h_27:AHeap)=>ifB t27 (callN (call 58 [z12 t0,.int .i64 t1_18] h_27) fun r31 h_32=>obind (z18e 0 r31) fun v32=>obind (z4f v32) fun t32=>obind (z18e 1 r31) fun v33=>obind (z2c .i64 v33) fun t33=>obind (z18e 2 r31) fun v34=>obind (z1a v34) fun t34=>lett (newH h_32 34 [.int .i64 0,.int .u64 0,.int .u64 0,.int .u64 0,.int .u64 0,.nsl]) fun h_40=>obind (z16 h_40 6 t32 (z7 h_32)) fun h_42=>lett (!t34) fun (t36:Bool)=>ifB t36 (obind (z16 h_42 6 ([.int .i64 0,.int .u64 0,.int .u64 0,.int .u64 0,.int .u64 0,.nsl]:List AV) (z7 h)) fun h_48=>obind (z15 h_48 6 (z7 h)) fun w4_51=>some (.ret (.tup [.agg w4_51,.int .i64 t33,.bool false]),h_48)) (lett (decide (t33<(z7b t0))) fun (t43:Bool)=>lett (fun (t11:Int) (h_58:AHeap)=>lett (decide (t11>0)) fun (t54:Bool)=>lett (fun (t1_63:Int) (h_64:AHeap)=>obind (z15 h_64 6 (z7 h_32)) fun t62=>outK (z122 Pg h_64 32 1 [(0,.agg t62)]) fun v63 h_66=>outK (z5e Pg h_66 32 32 t7_19 v63) fun v64 h_68=>self t1_63 v64 h_68) fun k62=>ifB t54 (obind (z15 h_58 6 (z7 h_32)) fun t56=>outK (z122 Pg h_58 32 1 [(0,.agg t56)]) fun v57 h_72=>obind (z27a Pg 34 [(0,.int .i64 t11),(2,v57)]) fun t58=>obind (z16 h_72 6 t58 (z7 h_32)) fun h_75=>lett (IntKind.i64.wrap (t33+1)) fun (t60:Int)=>k62 t60 h_75) (k62 t33 h_58)) fun k57=>ifB t43 (obind (z1a2 t0 t33) fun t46=>lett ((t46:Int) == 42) fun (t48:Bool)=>lett (fun (t11_84:Int) (h_85:AHeap)=>k57 t11_84 h_85) fun k83=>ifB t48 (k83 5 h_42) (lett ((t46:Int) == 43) fun (t50:Bool)=>lett (fun (t11_89:Int) (h_90:AHeap)=>k83 t11_89 h_90) fun k88=>ifB t50 (k88 6 h_42) (lett ((t46:Int) == 63) fun (t52:Bool)=>lett (fun (t11_94:Int) (h_95:AHeap)=>k88 t11_94 h_95) fun k93=>ifB t52 (k93 7 h_42) (k93 0 h_42)))) (k57 0 h_42))) (k7 t1_18 t7_19 h_27)) fun j27=>ifB t21 (obind (z1a2 t0 t1_18) fun t25=>lett ((t25:Int) != 41) fun (t26:Bool)=>j27 t26 h_24) (j27 false h_24)) fun j21=>ifB t15 (obind (z1a2 t0 t1_18) fun t19=>lett ((t19:Int) != 124) fun (t20:Bool)=>j21 t20 h_20) (j21 false h_20)
noncomputable def zce(call:zf)(t0:z11)(h:AHeap)(k7:Int→AV→AHeap→R):Nat→Int→AV→AHeap→R:=zbd (fun _ _ _=>none) (zaf call t0 h k7)
theorem zef(call:zf)(t0:z11)(h:AHeap)(k7:Int→AV→AHeap→R)(m:Nat):zce call t0 h k7 (m+1)=zaf call t0 h k7 (zce call t0 h k7 m):=rfl
noncomputable def z197(call:zf)(n:Nat)(t0:z11)(t1:Int)(h:AHeap):R:=lett (newH h 34 [.int .i64 0,.int .u64 0,.int .u64 0,.int .u64 0,.int .u64 0,.nsl]) fun h_2=>lett (fun (t1_8:Int) (t7:AV) (h_9:AHeap)=>callN (call 44 [.int .i64 3,t7] h_9) fun r66 h_11=>obind (z4f r66) fun t66=>obind (z16 h_11 6 t66 (z7 h)) fun h_14=>obind (z15 h_14 6 (z7 h)) fun w4=>some (.ret (.tup [.agg w4,.int .i64 t1_8,.bool true]),h_14)) fun k7=>zce call t0 h k7 n t1 AV.nsl h_2
theorem z3b0{call:zf}(hc:SaysAll Pg call){n:Nat}{t0:z11}{t1:Int}{h:AHeap}{rR:ARes}{hR:AHeap}(z:z197 call n t0 t1 h=some (rR,hR)):Says Pg 46 [z12 t0,.int .i64 t1] h rR hR:=by
 unfold z197 at z;refine sO Tryd.func46 fun w0 m0=>?_;refine wW [(0,z12 t0),(1,.int .i64 t1)] ?_;refine oG fun n1=>W.r ?_;refine oN 4 z fun h_2 z=>?_;refine oA 5 (.int .i64 0) ?_;refine oA 6 (.bool false) ?_;refine oV [(0,z12 t0),(1,.int .i64 t1),(4,z7 h)] (n1 ?_);refine oG fun n4=>W.r ?_;refine oA 7 AV.nsl ?_;refine oV [(0,z12 t0),(1,.int .i64 t1),(4,z7 h),(7,AV.nsl)] (n4 ?_);refine W.s (fun K5 n5 _ q5 _=>?_);obtain⟨k7,e7,z⟩:=lS z
 have J7:∀(t1_8:Int) (t7:AV) (h_9:AHeap),k7 t1_8 t7 h_9=some (rR,hR)→Go w0 m0 (Func.ntmps Tryd.f46) (K5 .normal) [(1,.int .i64 t1_8),(4,z7 h),(7,t7)] [] h_9:=by
  intro t1_8 t7 h_9 z;rw[e7] at z;refine n5 ?_;refine oG fun n10=>W.r ?_;refine oA 65 t7 ?_;refine oCa hc 66 z fun t66 h_11 z=>?_;refine oA 67 (.int .i64 t1_8) ?_;refine oW 34 (.agg t66) z fun h_14 z=>?_;refine oA 5 (.int .i64 t1_8) ?_;refine oA 6 (.bool true) ?_;refine oV [(4,z7 h),(5,.int .i64 t1_8),(6,.bool true)] (n10 (oY ?_));obtain⟨w4,e16,z⟩:=oS z;exact lZ z [.cell 4 34,.tmp 5,.tmp 6] [.agg w4,.int .i64 t1_8,.bool true] (rY e16 (rT (rT zd)))
 refine ye (by kernel_rfl) (fun K6 n6 s6 o6 q6 p6=>?_);refine y17 (by kernel_rfl) (fun I17 K17 b17 n17 e17 q17 p17=>?_)
 have L17:∀(m:Nat) (t1_18:Int) (t7_19:AV) (h_20:AHeap),zce call t0 h k7 m t1_18 t7_19 h_20=some (rR,hR)→Go w0 m0 (Func.ntmps Tryd.f46) I17 [(0,z12 t0),(1,.int .i64 t1_18),(4,z7 h),(7,t7_19)] [] h_20:=by
  intro m
  induction m with
  |zero=>intro t1_18 t7_19 h_20 z;cases z
  |succ m ih17=>
   intro t1_18 t7_19 h_20 z;rw[zef] at z;unfold zaf at z;refine b17 ?_;refine W.s (fun _ n21 e21 _ _=>?_);refine W.s (fun K22 n22 _ _ _=>?_);refine W.r ?_;refine oA 12 (.int .i64 t1_18) ?_;refine oA 13 (z12 t0) ?_;refine oA 14 (.int .i64 (z7b t0)) ?_;refine oB 15 z fun t15 z=>?_;refine oA 16 (.bool t15) ?_;obtain⟨j21,e25,z⟩:=lS z
   have J26:∀(t21:Bool) (h_24:AHeap),j21 t21 h_24=some (rR,hR)→WL Pg w0 m0 (Func.ntmps Tryd.f46) (y13 (y9 (y9 (y9 (y9 (y9 (y6 (y6 (z5f Tryd.f46))))))))) 10 K22 [(0,z12 t0),(1,.int .i64 t1_18),(4,z7 h),(7,t7_19),(21,.bool t21)] [] h_24:=by
    intro t21 h_24 z;rw[e25] at z;refine oA 22 (.bool t21) ?_;obtain⟨j27,e28,z⟩:=lS z
    have J29:∀(t27:Bool) (h_27:AHeap),j27 t27 h_27=some (rR,hR)→WL Pg w0 m0 (Func.ntmps Tryd.f46) (y13 (y9 (y9 (y9 (y9 (y9 (y6 (y6 (z5f Tryd.f46))))))))) 16 K22 [(0,z12 t0),(1,.int .i64 t1_18),(4,z7 h),(7,t7_19),(27,.bool t27)] [] h_27:=by
     intro t27 h_27 z;rw[e28] at z;refine oV [(0,z12 t0),(1,.int .i64 t1_18),(4,z7 h),(7,t7_19),(27,.bool t27)] (n22 ?_)
     cases t27 with
     |true=>
      refine oT z fun z=>?_;refine oZ (n21 ?_);refine ye (by kernel_rfl) (fun K30 n30 s30 o30 q30 p30=>?_);refine oG fun n31=>W.r ?_;refine oA 29 (z12 t0) ?_;refine oA 30 (.int .i64 t1_18) ?_;refine oC hc (some 31) z fun r31 h_32 z=>?_;refine oA 28 r31 ?_;refine oEa 32 z fun t32 z=>?_;refine oEi 33 z fun t33 z=>?_;refine oEb 34 z fun t34 z=>?_;refine oN 8 z fun h_40 z=>?_;refine oW 34 (.agg t32) z fun h_42 z=>?_;refine oA 9 (.int .i64 t33) ?_;refine oA 10 (.bool t34) ?_;refine oV [(0,z12 t0),(4,z7 h),(7,t7_19),(8,z7 h_32),(9,.int .i64 t33),(10,.bool t34)] (n31 ?_);refine oH fun n44 q44=>?_;refine oG fun n45=>W.r ?_;refine oA 35 (.bool t34) ?_;refine oB 36 z fun t36 z=>?_;refine oV [(0,z12 t0),(4,z7 h),(7,t7_19),(8,z7 h_32),(9,.int .i64 t33),(36,.bool t36)] (n45 ?_)
      cases t36 with
      |true=>
       refine oT z fun z=>?_;refine oG fun n47=>W.r ?_;refine oA 37 (.agg ([.int .i64 0,.int .u64 0,.int .u64 0,.int .u64 0,.int .u64 0,.nsl]:List AV)) ?_;refine oA 38 (.int .i64 t33) ?_;refine oW 34 (.agg ([.int .i64 0,.int .u64 0,.int .u64 0,.int .u64 0,.int .u64 0,.nsl]:List AV)) z fun h_48 z=>?_;refine oA 5 (.int .i64 t33) ?_;refine oA 6 (.bool false) ?_;refine oV [(4,z7 h),(5,.int .i64 t33),(6,.bool false)] (n47 (oY (q44 (q30 (q17 (q6 (q5 ?_)))))));obtain⟨w4_51,e50,z⟩:=oS z;exact lZ z [.cell 4 34,.tmp 5,.tmp 6] [.agg w4_51,.int .i64 t33,.bool false] (rY e50 (rT (rT zd)))
      |false=>
       refine oU z fun z=>?_;refine oZ (n44 ?_);refine oG fun n52=>W.r ?_;refine oA 39 (.int .i64 t33) ?_;refine oA 1 (.int .i64 t33) ?_;refine oV [(0,z12 t0),(1,.int .i64 t33),(4,z7 h),(7,t7_19),(8,z7 h_32)] (n52 ?_);refine oG fun n53=>W.r ?_;refine oA 11 (.int .i64 0) ?_;refine oV [(0,z12 t0),(1,.int .i64 t33),(4,z7 h),(7,t7_19),(8,z7 h_32),(11,.int .i64 0)] (n53 ?_);refine W.s (fun K54 n54 _ _ _=>?_);refine oG fun n55=>W.r ?_;refine oA 40 (.int .i64 t33) ?_;refine oA 41 (z12 t0) ?_;refine oA 42 (.int .i64 (z7b t0)) ?_;refine oB 43 z fun t43 z=>?_;refine oV [(0,z12 t0),(1,.int .i64 t33),(4,z7 h),(7,t7_19),(8,z7 h_32),(11,.int .i64 0),(43,.bool t43)] (n55 ?_);obtain⟨k57,e57,z⟩:=lS z
       have J57:∀(t11:Int) (h_58:AHeap),k57 t11 h_58=some (rR,hR)→Go w0 m0 (Func.ntmps Tryd.f46) (K54 .normal) [(0,z12 t0),(1,.int .i64 t33),(4,z7 h),(7,t7_19),(8,z7 h_32),(11,.int .i64 t11)] [] h_58:=by
        intro t11 h_58 z;rw[e57] at z;refine n54 ?_;refine W.s (fun K59 n59 _ _ _=>?_);refine oG fun n60=>W.r ?_;refine oA 53 (.int .i64 t11) ?_;refine oB 54 z fun t54 z=>?_;refine oV [(0,z12 t0),(1,.int .i64 t33),(4,z7 h),(7,t7_19),(8,z7 h_32),(11,.int .i64 t11),(54,.bool t54)] (n60 ?_);obtain⟨k62,e62,z⟩:=lS z
        have J62:∀(t1_63:Int) (h_64:AHeap),k62 t1_63 h_64=some (rR,hR)→Go w0 m0 (Func.ntmps Tryd.f46) (K59 .normal) [(0,z12 t0),(1,.int .i64 t1_63),(4,z7 h),(7,t7_19),(8,z7 h_32)] [] h_64:=by
         intro t1_63 h_64 z;rw[e62] at z;refine n59 (W.r ?_);refine oA 61 t7_19 ?_;refine oR 62 34 z fun t62 z=>?_;refine oK 63 z fun v63 h_66 z=>?_;refine oK 64 z fun v64 h_68 z=>?_;refine oA 7 v64 ?_;refine oV [(0,z12 t0),(1,.int .i64 t1_63),(4,z7 h),(7,v64)] (n30 (n17 ?_));exact gW _ (ih17 _ _ _ z)
        cases t54 with
        |true=>
         refine oT z fun z=>?_;refine oG fun n70=>W.r ?_;refine oA 55 (.int .i64 t11) ?_;refine oR 56 34 z fun t56 z=>?_;refine oK 57 z fun v57 h_72 z=>?_;obtain⟨t58,e74,z⟩:=oS z;refine WL.val (d:=(some 58)) (v:=.agg t58) (h':=h_72) (by kernel_rfl) (by kernel_rfl) (z1ef (by kernel_rfl) e74) ?_;refine oW 34 (.agg t58) z fun h_75 z=>?_;refine oV [(0,z12 t0),(1,.int .i64 t33),(4,z7 h),(7,t7_19),(8,z7 h_32)] (n70 (W.r ?_));refine oA 59 (.int .i64 t33) ?_;refine oI 60 .i64 z fun t60 z=>?_;refine oA 1 (.int .i64 t60) ?_;refine oV [(0,z12 t0),(1,.int .i64 t60),(4,z7 h),(7,t7_19),(8,z7 h_32)] ?_;exact gW _ (J62 _ _ z)
        |false=>
         refine oU z fun z=>?_;refine oZ ?_;exact gW _ (J62 _ _ z)
       cases t43 with
       |true=>
        refine oT z fun z=>?_;refine oG fun n78=>W.r ?_;refine oA 44 (z12 t0) ?_;refine oA 45 (.int .i64 t33) ?_;refine oX 46 9 .i64 z fun t46 z=>?_;refine oV [(0,z12 t0),(1,.int .i64 t33),(4,z7 h),(7,t7_19),(8,z7 h_32),(11,.int .i64 0),(46,.int .u8 t46)] (n78 ?_);refine ye (by kernel_rfl) (fun K80 n80 s80 o80 q80 p80=>?_);refine oG fun n81=>W.r ?_;refine oB 48 z fun t48 z=>?_;refine oA 47 (.bool t48) ?_;refine oV [(0,z12 t0),(1,.int .i64 t33),(4,z7 h),(7,t7_19),(8,z7 h_32),(11,.int .i64 0),(46,.int .u8 t46),(47,.bool t48)] (n81 ?_);obtain⟨k83,e83,z⟩:=lS z
        have J83:∀(t11_84:Int) (h_85:AHeap),k83 t11_84 h_85=some (rR,hR)→Go w0 m0 (Func.ntmps Tryd.f46) (K80 .normal) [(0,z12 t0),(1,.int .i64 t33),(4,z7 h),(7,t7_19),(8,z7 h_32),(11,.int .i64 t11_84)] [] h_85:=by
         intro t11_84 h_85 z;rw[e83] at z;refine n80 ?_;exact gW _ (J57 _ _ z)
        cases t48 with
        |true=>
         refine oT z fun z=>?_;refine W.r ?_;refine oA 11 (.int .i64 5) ?_;refine oV [(0,z12 t0),(1,.int .i64 t33),(4,z7 h),(7,t7_19),(8,z7 h_32),(11,.int .i64 5)] ?_;exact gW _ (J83 _ _ z)
        |false=>
         refine oU z fun z=>?_;refine oG fun n86=>W.r ?_;refine oB 50 z fun t50 z=>?_;refine oA 49 (.bool t50) ?_;refine oV [(0,z12 t0),(1,.int .i64 t33),(4,z7 h),(7,t7_19),(8,z7 h_32),(11,.int .i64 0),(46,.int .u8 t46),(49,.bool t50)] (n86 ?_);obtain⟨k88,e88,z⟩:=lS z
         have J88:∀(t11_89:Int) (h_90:AHeap),k88 t11_89 h_90=some (rR,hR)→Go w0 m0 (Func.ntmps Tryd.f46) (K80 .normal) [(0,z12 t0),(1,.int .i64 t33),(4,z7 h),(7,t7_19),(8,z7 h_32),(11,.int .i64 t11_89)] [] h_90:=by
          intro t11_89 h_90 z;rw[e88] at z;exact gW _ (J83 _ _ z)
         cases t50 with
         |true=>
          refine oT z fun z=>?_;refine W.r ?_;refine oA 11 (.int .i64 6) ?_;refine oV [(0,z12 t0),(1,.int .i64 t33),(4,z7 h),(7,t7_19),(8,z7 h_32),(11,.int .i64 6)] ?_;exact gW _ (J88 _ _ z)
         |false=>
          refine oU z fun z=>?_;refine oG fun n91=>W.r ?_;refine oB 52 z fun t52 z=>?_;refine oA 51 (.bool t52) ?_;refine oV [(0,z12 t0),(1,.int .i64 t33),(4,z7 h),(7,t7_19),(8,z7 h_32),(11,.int .i64 0),(51,.bool t52)] (n91 ?_);obtain⟨k93,e93,z⟩:=lS z
          have J93:∀(t11_94:Int) (h_95:AHeap),k93 t11_94 h_95=some (rR,hR)→Go w0 m0 (Func.ntmps Tryd.f46) (K80 .normal) [(0,z12 t0),(1,.int .i64 t33),(4,z7 h),(7,t7_19),(8,z7 h_32),(11,.int .i64 t11_94)] [] h_95:=by
           intro t11_94 h_95 z;rw[e93] at z;exact gW _ (J88 _ _ z)
          cases t52 with
          |true=>
           refine oT z fun z=>?_;refine W.r ?_;refine oA 11 (.int .i64 7) ?_;refine oV [(0,z12 t0),(1,.int .i64 t33),(4,z7 h),(7,t7_19),(8,z7 h_32),(11,.int .i64 7)] ?_;exact gW _ (J93 _ _ z)
          |false=>
           refine oU z fun z=>?_;refine oZ ?_;exact gW _ (J93 _ _ z)
       |false=>
        refine oU z fun z=>?_;refine oZ ?_;exact gW _ (J57 _ _ z)
     |false=>
      refine oU z fun z=>?_;refine W.exit (by kernel_rfl) ?_;refine e21 (e17 ?_);refine s6 (by kernel_rfl) ?_;exact gW _ (J7 _ _ _ z)
    cases t21 with
    |true=>
     replace z:=z8f z
     refine oA 23 (z12 t0) ?_;refine oA 24 (.int .i64 t1_18) ?_;refine oX 25 9 .i64 z fun t25 z=>?_;refine oB 26 z fun t26 z=>?_;refine oA 27 (.bool t26) ?_;exact lW _ (J29 _ _ z)
    |false=>
     replace z:=z90 z
     refine WL.o (some 23) ?_;refine WL.o (some 24) ?_;refine WL.o (some 25) ?_;refine WL.o (some 26) ?_;refine oA 27 (.bool false) ?_;exact lW _ (J29 _ _ z)
   cases t15 with
   |true=>
    replace z:=z8f z
    refine oA 17 (z12 t0) ?_;refine oA 18 (.int .i64 t1_18) ?_;refine oX 19 9 .i64 z fun t19 z=>?_;refine oB 20 z fun t20 z=>?_;refine oA 21 (.bool t20) ?_;exact lW _ (J26 _ _ z)
   |false=>
    replace z:=z90 z
    refine WL.o (some 17) ?_;refine WL.o (some 18) ?_;refine WL.o (some 19) ?_;refine WL.o (some 20) ?_;refine oA 21 (.bool false) ?_;exact lW _ (J26 _ _ z)
 exact gW _ (L17 _ _ _ _ z)
noncomputable def z6d(call:zf)(_:Nat)(t0:z11)(t1:Int)(h:AHeap):R:=lett (newH h 34 [.int .i64 0,.int .u64 0,.int .u64 0,.int .u64 0,.int .u64 0,.nsl]) fun h_2=>obind (z1a2 t0 t1) fun t12=>lett ((t12:Int) == 40) fun (t14:Bool)=>ifB t14 (lett (IntKind.i64.wrap (t1+1)) fun (t18:Int)=>callN (call 30 [z12 t0,.int .i64 t18] h_2) fun r19 h_12=>obind (z18e 0 r19) fun v20=>obind (z4f v20) fun t20=>obind (z18e 1 r19) fun v21=>obind (z2c .i64 v21) fun t21=>obind (z18e 2 r19) fun v22=>obind (z1a v22) fun t22=>lett (newH h_12 34 [.int .i64 0,.int .u64 0,.int .u64 0,.int .u64 0,.int .u64 0,.nsl]) fun h_20=>obind (z16 h_20 6 t20 (z7 h_12)) fun h_22=>lett (!t22) fun (t24:Bool)=>ifB t24 (obind (z15 h_22 6 (z7 h_12)) fun t25=>obind (z16 h_22 6 t25 (z7 h)) fun h_29=>obind (z15 h_29 6 (z7 h)) fun w4=>some (.ret (.tup [.agg w4,.int .i64 t21,.bool false]),h_29)) (lett ((t21:Int) == (z7b t0)) fun (t30:Bool)=>ifB t30 (obind (z16 h_22 6 ([.int .i64 0,.int .u64 0,.int .u64 0,.int .u64 0,.int .u64 0,.nsl]:List AV) (z7 h)) fun h_36=>obind (z15 h_36 6 (z7 h)) fun w4_39=>some (.ret (.tup [.agg w4_39,.int .i64 t21,.bool false]),h_36)) (obind (z15 h_22 6 (z7 h_12)) fun t33=>lett (IntKind.i64.wrap (t21+1)) fun (t35:Int)=>obind (z16 h_22 6 t33 (z7 h)) fun h_43=>obind (z15 h_43 6 (z7 h)) fun w4_46=>some (.ret (.tup [.agg w4_46,.int .i64 t35,.bool true]),h_43)))) (lett ((t12:Int) == 91) fun (t37:Bool)=>ifB t37 (lett (IntKind.i64.wrap (t1+1)) fun (t40:Int)=>callN (call 68 [z12 t0,.int .i64 t40] h_2) fun r41 h_51=>obind (z18e 0 r41) fun v42=>obind (z4f v42) fun t42=>obind (z18e 1 r41) fun v43=>obind (z2c .i64 v43) fun t43=>obind (z18e 2 r41) fun v44=>obind (z1a v44) fun t44=>obind (z16 h_51 6 t42 (z7 h)) fun h_59=>obind (z15 h_59 6 (z7 h)) fun w4_62=>some (.ret (.tup [.agg w4_62,.int .i64 t43,.bool t44]),h_59)) (lett ((t12:Int) == 46) fun (t46:Bool)=>ifB t46 (callN (call 45 [] h_2) fun r47 h_66=>obind (z4f r47) fun t47=>lett (IntKind.i64.wrap (t1+1)) fun (t49:Int)=>obind (z16 h_66 6 t47 (z7 h)) fun h_70=>obind (z15 h_70 6 (z7 h)) fun w4_73=>some (.ret (.tup [.agg w4_73,.int .i64 t49,.bool true]),h_70)) (lett ((t12:Int) == 42) fun (t51:Bool)=>lett (fun (t50:Bool) (h_78:AHeap)=>ifB t50 (obind (z16 h_78 6 ([.int .i64 0,.int .u64 0,.int .u64 0,.int .u64 0,.int .u64 0,.nsl]:List AV) (z7 h)) fun h_80=>obind (z15 h_80 6 (z7 h)) fun w4_83=>some (.ret (.tup [.agg w4_83,.int .i64 t1,.bool false]),h_80)) (lett ((t12:Int) == 92) fun (t58:Bool)=>ifB t58 (lett (IntKind.i64.wrap (t1+1)) fun (t60:Int)=>lett ((t60:Int) == (z7b t0)) fun (t63:Bool)=>ifB t63 (lett (IntKind.i64.wrap (t1+1)) fun (t66:Int)=>obind (z16 h_78 6 ([.int .i64 0,.int .u64 0,.int .u64 0,.int .u64 0,.int .u64 0,.nsl]:List AV) (z7 h)) fun h_92=>obind (z15 h_92 6 (z7 h)) fun w4_95=>some (.ret (.tup [.agg w4_95,.int .i64 t66,.bool false]),h_92)) (lett (IntKind.i64.wrap (t1+1)) fun (t69:Int)=>obind (z1a2 t0 t69) fun t70=>callN (call 43 [.int .u8 t70] h_78) fun r71 h_99=>obind (z4f r71) fun t71=>lett (IntKind.i64.wrap (t1+2)) fun (t73:Int)=>obind (z16 h_99 6 t71 (z7 h)) fun h_103=>obind (z15 h_103 6 (z7 h)) fun w4_106=>some (.ret (.tup [.agg w4_106,.int .i64 t73,.bool true]),h_103))) (obind (z1a2 t0 t1) fun t76=>callN (call 43 [.int .u8 t76] h_78) fun r77 h_109=>obind (z4f r77) fun t77=>lett (IntKind.i64.wrap (t1+1)) fun (t79:Int)=>obind (z16 h_109 6 t77 (z7 h)) fun h_113=>obind (z15 h_113 6 (z7 h)) fun w4_116=>some (.ret (.tup [.agg w4_116,.int .i64 t79,.bool true]),h_113)))) fun k77=>ifB t51 (k77 true h_2) (lett ((t12:Int) == 43) fun (t52:Bool)=>lett (fun (t50_120:Bool) (h_121:AHeap)=>k77 t50_120 h_121) fun k119=>ifB t52 (k119 true h_2) (lett ((t12:Int) == 63) fun (t53:Bool)=>lett (fun (t50_125:Bool) (h_126:AHeap)=>k119 t50_125 h_126) fun k124=>ifB t53 (k124 true h_2) (lett ((t12:Int) == 93) fun (t54:Bool)=>k124 t54 h_2))))))
theorem z35b{call:zf}(hc:SaysAll Pg call){n:Nat}{t0:z11}{t1:Int}{h:AHeap}{rR:ARes}{hR:AHeap}(z:z6d call n t0 t1 h=some (rR,hR)):Says Pg 58 [z12 t0,.int .i64 t1] h rR hR:=by
 unfold z6d at z;refine sO Tryd.func58 fun w0 m0=>?_;refine wW [(0,z12 t0),(1,.int .i64 t1)] ?_;refine oG fun n1=>W.r ?_;refine oN 4 z fun h_2 z=>?_;refine oA 5 (.int .i64 0) ?_;refine oA 6 (.bool false) ?_;refine oV [(0,z12 t0),(1,.int .i64 t1),(4,z7 h)] (n1 ?_);refine oH fun n4 q4=>?_;refine oG fun n5=>W.r ?_;refine oA 10 (z12 t0) ?_;refine oA 11 (.int .i64 t1) ?_;refine oX 12 9 .i64 z fun t12 z=>?_;refine oV [(0,z12 t0),(1,.int .i64 t1),(4,z7 h),(12,.int .u8 t12)] (n5 ?_);refine ye (by kernel_rfl) (fun K7 n7 s7 o7 q7 p7=>?_);refine oG fun n8=>W.r ?_;refine oB 14 z fun t14 z=>?_;refine oA 13 (.bool t14) ?_;refine oV [(0,z12 t0),(1,.int .i64 t1),(4,z7 h),(12,.int .u8 t12),(13,.bool t14)] (n8 ?_)
 cases t14 with
 |true=>
  refine oT z fun z=>?_;refine oG fun n10=>W.r ?_;refine oA 16 (z12 t0) ?_;refine oA 17 (.int .i64 t1) ?_;refine oI 18 .i64 z fun t18 z=>?_;refine oC hc (some 19) z fun r19 h_12 z=>?_;refine oA 15 r19 ?_;refine oEa 20 z fun t20 z=>?_;refine oEi 21 z fun t21 z=>?_;refine oEb 22 z fun t22 z=>?_;refine oN 7 z fun h_20 z=>?_;refine oW 34 (.agg t20) z fun h_22 z=>?_;refine oA 8 (.int .i64 t21) ?_;refine oA 9 (.bool t22) ?_;refine oV [(0,z12 t0),(4,z7 h),(7,z7 h_12),(8,.int .i64 t21),(9,.bool t22)] (n10 ?_);refine oH fun n24 q24=>?_;refine oG fun n25=>W.r ?_;refine oA 23 (.bool t22) ?_;refine oB 24 z fun t24 z=>?_;refine oV [(0,z12 t0),(4,z7 h),(7,z7 h_12),(8,.int .i64 t21),(24,.bool t24)] (n25 ?_)
  cases t24 with
  |true=>
   refine oT z fun z=>?_;refine oG fun n27=>W.r ?_;refine oR 25 34 z fun t25 z=>?_;refine oA 26 (.int .i64 t21) ?_;refine oW 34 (.agg t25) z fun h_29 z=>?_;refine oA 5 (.int .i64 t21) ?_;refine oA 6 (.bool false) ?_;refine oV [(4,z7 h),(5,.int .i64 t21),(6,.bool false)] (n27 (oY (q24 (q7 (q4 ?_)))));obtain⟨w4,e31,z⟩:=oS z;exact lZ z [.cell 4 34,.tmp 5,.tmp 6] [.agg w4,.int .i64 t21,.bool false] (rY e31 (rT (rT zd)))
  |false=>
   refine oU z fun z=>?_;refine oZ (n24 ?_);refine oH fun n32 q32=>?_;refine oG fun n33=>W.r ?_;refine oA 27 (.int .i64 t21) ?_;refine oA 28 (z12 t0) ?_;refine oA 29 (.int .i64 (z7b t0)) ?_;refine oB 30 z fun t30 z=>?_;refine oV [(4,z7 h),(7,z7 h_12),(8,.int .i64 t21),(30,.bool t30)] (n33 ?_)
   cases t30 with
   |true=>
    refine oT z fun z=>?_;refine oG fun n35=>W.r ?_;refine oA 31 (.agg ([.int .i64 0,.int .u64 0,.int .u64 0,.int .u64 0,.int .u64 0,.nsl]:List AV)) ?_;refine oA 32 (.int .i64 t21) ?_;refine oW 34 (.agg ([.int .i64 0,.int .u64 0,.int .u64 0,.int .u64 0,.int .u64 0,.nsl]:List AV)) z fun h_36 z=>?_;refine oA 5 (.int .i64 t21) ?_;refine oA 6 (.bool false) ?_;refine oV [(4,z7 h),(5,.int .i64 t21),(6,.bool false)] (n35 (oY (q32 (q7 (q4 ?_)))));obtain⟨w4_39,e38,z⟩:=oS z;exact lZ z [.cell 4 34,.tmp 5,.tmp 6] [.agg w4_39,.int .i64 t21,.bool false] (rY e38 (rT (rT zd)))
   |false=>
    refine oU z fun z=>?_;refine oZ (n32 ?_);refine oG fun n40=>W.r ?_;refine oR 33 34 z fun t33 z=>?_;refine oA 34 (.int .i64 t21) ?_;refine oI 35 .i64 z fun t35 z=>?_;refine oW 34 (.agg t33) z fun h_43 z=>?_;refine oA 5 (.int .i64 t35) ?_;refine oA 6 (.bool true) ?_;refine oV [(4,z7 h),(5,.int .i64 t35),(6,.bool true)] (n40 (oY (q7 (q4 ?_))));obtain⟨w4_46,e45,z⟩:=oS z;exact lZ z [.cell 4 34,.tmp 5,.tmp 6] [.agg w4_46,.int .i64 t35,.bool true] (rY e45 (rT (rT zd)))
 |false=>
  refine oU z fun z=>?_;refine oG fun n47=>W.r ?_;refine oB 37 z fun t37 z=>?_;refine oA 36 (.bool t37) ?_;refine oV [(0,z12 t0),(1,.int .i64 t1),(4,z7 h),(12,.int .u8 t12),(36,.bool t37)] (n47 ?_)
  cases t37 with
  |true=>
   refine oT z fun z=>?_;refine oG fun n49=>W.r ?_;refine oA 38 (z12 t0) ?_;refine oA 39 (.int .i64 t1) ?_;refine oI 40 .i64 z fun t40 z=>?_;refine oC hc (some 41) z fun r41 h_51 z=>?_;refine oEa 42 z fun t42 z=>?_;refine oEi 43 z fun t43 z=>?_;refine oEb 44 z fun t44 z=>?_;refine oW 34 (.agg t42) z fun h_59 z=>?_;refine oA 5 (.int .i64 t43) ?_;refine oA 6 (.bool t44) ?_;refine oV [(4,z7 h),(5,.int .i64 t43),(6,.bool t44)] (n49 (oY (q7 (q4 ?_))));obtain⟨w4_62,e61,z⟩:=oS z;exact lZ z [.cell 4 34,.tmp 5,.tmp 6] [.agg w4_62,.int .i64 t43,.bool t44] (rY e61 (rT (rT zd)))
  |false=>
   refine oU z fun z=>?_;refine oG fun n63=>W.r ?_;refine oB 46 z fun t46 z=>?_;refine oA 45 (.bool t46) ?_;refine oV [(0,z12 t0),(1,.int .i64 t1),(4,z7 h),(12,.int .u8 t12),(45,.bool t46)] (n63 ?_)
   cases t46 with
   |true=>
    refine oT z fun z=>?_;refine oG fun n65=>W.r ?_;refine oCa hc 47 z fun t47 h_66 z=>?_;refine oA 48 (.int .i64 t1) ?_;refine oI 49 .i64 z fun t49 z=>?_;refine oW 34 (.agg t47) z fun h_70 z=>?_;refine oA 5 (.int .i64 t49) ?_;refine oA 6 (.bool true) ?_;refine oV [(4,z7 h),(5,.int .i64 t49),(6,.bool true)] (n65 (oY (q7 (q4 ?_))));obtain⟨w4_73,e72,z⟩:=oS z;exact lZ z [.cell 4 34,.tmp 5,.tmp 6] [.agg w4_73,.int .i64 t49,.bool true] (rY e72 (rT (rT zd)))
   |false=>
    refine oU z fun z=>?_;refine W.s (fun K74 n74 _ _ _=>?_);refine oG fun n75=>W.r ?_;refine oB 51 z fun t51 z=>?_;refine oA 50 (.bool t51) ?_;refine oV [(0,z12 t0),(1,.int .i64 t1),(4,z7 h),(12,.int .u8 t12),(50,.bool t51)] (n75 ?_);obtain⟨k77,e77,z⟩:=lS z
    have J77:∀(t50:Bool) (h_78:AHeap),k77 t50 h_78=some (rR,hR)→Go w0 m0 (Func.ntmps Tryd.f58) (K74 .normal) [(0,z12 t0),(1,.int .i64 t1),(4,z7 h),(12,.int .u8 t12),(50,.bool t50)] [] h_78:=by
     intro t50 h_78 z;rw[e77] at z;refine n74 ?_
     cases t50 with
     |true=>
      refine oT z fun z=>?_;refine oG fun n79=>W.r ?_;refine oA 55 (.agg ([.int .i64 0,.int .u64 0,.int .u64 0,.int .u64 0,.int .u64 0,.nsl]:List AV)) ?_;refine oA 56 (.int .i64 t1) ?_;refine oW 34 (.agg ([.int .i64 0,.int .u64 0,.int .u64 0,.int .u64 0,.int .u64 0,.nsl]:List AV)) z fun h_80 z=>?_;refine oA 5 (.int .i64 t1) ?_;refine oA 6 (.bool false) ?_;refine oV [(4,z7 h),(5,.int .i64 t1),(6,.bool false)] (n79 (oY (q7 (q4 ?_))));obtain⟨w4_83,e82,z⟩:=oS z;exact lZ z [.cell 4 34,.tmp 5,.tmp 6] [.agg w4_83,.int .i64 t1,.bool false] (rY e82 (rT (rT zd)))
     |false=>
      refine oU z fun z=>?_;refine oG fun n84=>W.r ?_;refine oB 58 z fun t58 z=>?_;refine oA 57 (.bool t58) ?_;refine oV [(0,z12 t0),(1,.int .i64 t1),(4,z7 h),(57,.bool t58)] (n84 ?_)
      cases t58 with
      |true=>
       refine oT z fun z=>?_;refine oH fun n86 q86=>?_;refine oG fun n87=>W.r ?_;refine oA 59 (.int .i64 t1) ?_;refine oI 60 .i64 z fun t60 z=>?_;refine oA 61 (z12 t0) ?_;refine oA 62 (.int .i64 (z7b t0)) ?_;refine oB 63 z fun t63 z=>?_;refine oV [(0,z12 t0),(1,.int .i64 t1),(4,z7 h),(63,.bool t63)] (n87 ?_)
       cases t63 with
       |true=>
        refine oT z fun z=>?_;refine oG fun n90=>W.r ?_;refine oA 64 (.agg ([.int .i64 0,.int .u64 0,.int .u64 0,.int .u64 0,.int .u64 0,.nsl]:List AV)) ?_;refine oA 65 (.int .i64 t1) ?_;refine oI 66 .i64 z fun t66 z=>?_;refine oW 34 (.agg ([.int .i64 0,.int .u64 0,.int .u64 0,.int .u64 0,.int .u64 0,.nsl]:List AV)) z fun h_92 z=>?_;refine oA 5 (.int .i64 t66) ?_;refine oA 6 (.bool false) ?_;refine oV [(4,z7 h),(5,.int .i64 t66),(6,.bool false)] (n90 (oY (q86 (q7 (q4 ?_)))));obtain⟨w4_95,e94,z⟩:=oS z;exact lZ z [.cell 4 34,.tmp 5,.tmp 6] [.agg w4_95,.int .i64 t66,.bool false] (rY e94 (rT (rT zd)))
       |false=>
        refine oU z fun z=>?_;refine oZ (n86 ?_);refine oG fun n96=>W.r ?_;refine oA 67 (z12 t0) ?_;refine oA 68 (.int .i64 t1) ?_;refine oI 69 .i64 z fun t69 z=>?_;refine oX 70 9 .i64 z fun t70 z=>?_;refine oCa hc 71 z fun t71 h_99 z=>?_;refine oA 72 (.int .i64 t1) ?_;refine oI 73 .i64 z fun t73 z=>?_;refine oW 34 (.agg t71) z fun h_103 z=>?_;refine oA 5 (.int .i64 t73) ?_;refine oA 6 (.bool true) ?_;refine oV [(4,z7 h),(5,.int .i64 t73),(6,.bool true)] (n96 (oY (q7 (q4 ?_))));obtain⟨w4_106,e105,z⟩:=oS z;exact lZ z [.cell 4 34,.tmp 5,.tmp 6] [.agg w4_106,.int .i64 t73,.bool true] (rY e105 (rT (rT zd)))
      |false=>
       refine oU z fun z=>?_;refine oZ (n7 (n4 ?_));refine oG fun n107=>W.r ?_;refine oA 74 (z12 t0) ?_;refine oA 75 (.int .i64 t1) ?_;refine oX 76 9 .i64 z fun t76 z=>?_;refine oCa hc 77 z fun t77 h_109 z=>?_;refine oA 78 (.int .i64 t1) ?_;refine oI 79 .i64 z fun t79 z=>?_;refine oW 34 (.agg t77) z fun h_113 z=>?_;refine oA 5 (.int .i64 t79) ?_;refine oA 6 (.bool true) ?_;refine oV [(4,z7 h),(5,.int .i64 t79),(6,.bool true)] (n107 (oY ?_));obtain⟨w4_116,e115,z⟩:=oS z;exact lZ z [.cell 4 34,.tmp 5,.tmp 6] [.agg w4_116,.int .i64 t79,.bool true] (rY e115 (rT (rT zd)))
    cases t51 with
    |true=>
     refine oT z fun z=>?_;refine oZ ?_;exact gW _ (J77 _ _ z)
    |false=>
     refine oU z fun z=>?_;refine oG fun n117=>W.r ?_;refine oB 52 z fun t52 z=>?_;refine oA 50 (.bool t52) ?_;refine oV [(0,z12 t0),(1,.int .i64 t1),(4,z7 h),(12,.int .u8 t12),(50,.bool t52)] (n117 ?_);obtain⟨k119,e119,z⟩:=lS z
     have J119:∀(t50_120:Bool) (h_121:AHeap),k119 t50_120 h_121=some (rR,hR)→Go w0 m0 (Func.ntmps Tryd.f58) (K74 .normal) [(0,z12 t0),(1,.int .i64 t1),(4,z7 h),(12,.int .u8 t12),(50,.bool t50_120)] [] h_121:=by
      intro t50_120 h_121 z;rw[e119] at z;exact gW _ (J77 _ _ z)
     cases t52 with
     |true=>
      refine oT z fun z=>?_;refine oZ ?_;exact gW _ (J119 _ _ z)
     |false=>
      refine oU z fun z=>?_;refine oG fun n122=>W.r ?_;refine oB 53 z fun t53 z=>?_;refine oA 50 (.bool t53) ?_;refine oV [(0,z12 t0),(1,.int .i64 t1),(4,z7 h),(12,.int .u8 t12),(50,.bool t53)] (n122 ?_);obtain⟨k124,e124,z⟩:=lS z
      have J124:∀(t50_125:Bool) (h_126:AHeap),k124 t50_125 h_126=some (rR,hR)→Go w0 m0 (Func.ntmps Tryd.f58) (K74 .normal) [(0,z12 t0),(1,.int .i64 t1),(4,z7 h),(12,.int .u8 t12),(50,.bool t50_125)] [] h_126:=by
       intro t50_125 h_126 z;rw[e124] at z;exact gW _ (J119 _ _ z)
      cases t53 with
      |true=>
       refine oT z fun z=>?_;refine oZ ?_;exact gW _ (J124 _ _ z)
      |false=>
       refine oU z fun z=>?_;refine W.r ?_;refine oB 54 z fun t54 z=>?_;refine oA 50 (.bool t54) ?_;refine oV [(0,z12 t0),(1,.int .i64 t1),(4,z7 h),(12,.int .u8 t12),(50,.bool t54)] ?_;exact gW _ (J124 _ _ z)
noncomputable def zd0(h_18:AHeap)(t14:Int)(k108:AHeap→R)(self:Int→AHeap→R)(t15:Int)(h_111:AHeap):R:=lett (IntKind.i64.wrap t14) fun (t90:Int)=>lett (decide (t15≤t90)) fun (t91:Bool)=>ifB t91 (obind (z20b 256 1 (z7 h_18) t15) fun t95=>obind (z16 h_111 1 [.bool true] t95) fun h_119=>lett (IntKind.i64.wrap (t15+1)) fun (t93:Int)=>self t93 h_119) (k108 h_111)
noncomputable def z9c(h_18:AHeap)(t14:Int)(k108:AHeap→R):Nat→Int→AHeap→R:=zbd (fun _ _=>none) (zd0 h_18 t14 k108)
theorem z14d(h_18:AHeap)(t14:Int)(k108:AHeap→R)(m:Nat):z9c h_18 t14 k108 (m+1)=zd0 h_18 t14 k108 (z9c h_18 t14 k108 m):=rfl
noncomputable def z71(call:zf)(n:Nat)(t0:z11)(h:AHeap)(h_18:AHeap)(k25:Int→AHeap→R)(self:Int→Bool→AHeap→R)(t1_65:Int)(t10:Bool)(h_66:AHeap):R:=lett (fun (t37:Bool) (h_69:AHeap)=>lett (fun (t43:Bool) (h_72:AHeap)=>ifB t43 (callN (call 72 [z12 t0,.int .i64 t1_65] h_72) fun r47 h_78=>obind (z18e 0 r47) fun v48=>obind (z2c .u8 v48) fun t48=>obind (z18e 1 r47) fun v49=>obind (z2c .i64 v49) fun t49=>obind (z18e 2 r47) fun v50=>obind (z1a v50) fun t50=>lett (!t50) fun (t52:Bool)=>ifB t52 (obind (z16 h_78 6 ([.int .i64 0,.int .u64 0,.int .u64 0,.int .u64 0,.int .u64 0,.nsl]:List AV) (z7 h)) fun h_90=>obind (z15 h_90 6 (z7 h)) fun w4_93=>some (.ret (.tup [.agg w4_93,.int .i64 t49,.bool false]),h_90)) (lett (decide (t49<(z7b t0))) fun (t60:Bool)=>lett (fun (t66:Bool) (h_99:AHeap)=>lett (fun (t1_103:Int) (t14:Int) (h_104:AHeap)=>lett (IntKind.i64.wrap t48) fun (t87:Int)=>lett (fun (h_109:AHeap)=>self t1_103 false h_109) fun k108=>z9c h_18 t14 k108 n t87 h_104) fun k102=>ifB t66 (lett (IntKind.i64.wrap (t49+1)) fun (t70:Int)=>callN (call 72 [z12 t0,.int .i64 t70] h_99) fun r71 h_124=>obind (z18e 0 r71) fun v72=>obind (z2c .u8 v72) fun t72=>obind (z18e 1 r71) fun v73=>obind (z2c .i64 v73) fun t73=>obind (z18e 2 r71) fun v74=>obind (z1a v74) fun t74=>lett (!t74) fun (t76:Bool)=>ifB t76 (obind (z16 h_124 6 ([.int .i64 0,.int .u64 0,.int .u64 0,.int .u64 0,.int .u64 0,.nsl]:List AV) (z7 h)) fun h_136=>obind (z15 h_136 6 (z7 h)) fun w4_139=>some (.ret (.tup [.agg w4_139,.int .i64 t73,.bool false]),h_136)) (lett (decide (t72<t48)) fun (t82:Bool)=>ifB t82 (lett (IntKind.i64.wrap (t73 - 1)) fun (t85:Int)=>obind (z16 h_124 6 ([.int .i64 0,.int .u64 0,.int .u64 0,.int .u64 0,.int .u64 0,.nsl]:List AV) (z7 h)) fun h_145=>obind (z15 h_145 6 (z7 h)) fun w4_148=>some (.ret (.tup [.agg w4_148,.int .i64 t85,.bool false]),h_145)) (k102 t73 t72 h_124))) (k102 t49 t48 h_99)) fun j66=>ifB t60 (obind (z1a2 t0 t49) fun t64=>lett ((t64:Int) == 45) fun (t65:Bool)=>j66 t65 h_78) (j66 false h_78))) (k25 t1_65 h_72)) fun j43=>ifB t37 (j43 true h_69) (obind (z1a2 t0 t1_65) fun t41=>lett ((t41:Int) != 93) fun (t42:Bool)=>j43 t42 h_69)) fun j37=>ifB t10 (j37 true h_66) (lett ((t1_65:Int) == (z7b t0)) fun (t36:Bool)=>j37 t36 h_66)
noncomputable def z85(call:zf)(n:Nat)(t0:z11)(h:AHeap)(h_18:AHeap)(k25:Int→AHeap→R):Nat→Int→Bool→AHeap→R:=zbd (fun _ _ _=>none) (z71 call n t0 h h_18 k25)
theorem zb6(call:zf)(n:Nat)(t0:z11)(h:AHeap)(h_18:AHeap)(k25:Int→AHeap→R)(m:Nat):z85 call n t0 h h_18 k25 (m+1)=z71 call n t0 h h_18 k25 (z85 call n t0 h h_18 k25 m):=rfl
noncomputable def zd1(h_2:AHeap)(t27:Bool)(h_18:AHeap)(k31:AHeap→R)(self:Int→AHeap→R)(t16:Int)(h_40:AHeap):R:=lett (decide (t16<256)) fun (t97:Bool)=>ifB t97 (obind (z20b 256 1 (z7 h_18) t16) fun t101=>obind (z9 h_40 t101) fun v102=>obind (z1a v102) fun t102=>lett (!((t102:Bool) == t27)) fun (t104:Bool)=>lett (fun (h_52:AHeap)=>lett (IntKind.i64.wrap (t16+1)) fun (t99:Int)=>self t99 h_52) fun k51=>ifB t104 (obind (z44a .i64 t16 64) fun t106=>obind (z20b 4 1 (AV.ptr (AHeap.next h_2) 1) t106) fun t108=>obind (z9 h_40 t108) fun v109=>obind (z2c .u64 v109) fun t109=>obind (z448 .i64 t16 64) fun t111=>obind (shlI .u64 1 t111) fun t112=>lett (orI .u64 t109 t112) fun (t113:Int)=>obind (z20b 4 1 (AV.ptr (AHeap.next h_2) 1) t106) fun t115=>obind (z16 h_40 1 [.int .u64 t113] t115) fun h_62=>k51 h_62) (k51 h_40)) (k31 h_40)
noncomputable def zbf(h_2:AHeap)(t27:Bool)(h_18:AHeap)(k31:AHeap→R):Nat→Int→AHeap→R:=zbd (fun _ _=>none) (zd1 h_2 t27 h_18 k31)
theorem z14e(h_2:AHeap)(t27:Bool)(h_18:AHeap)(k31:AHeap→R)(m:Nat):zbf h_2 t27 h_18 k31 (m+1)=zd1 h_2 t27 h_18 k31 (zbf h_2 t27 h_18 k31 m):=rfl
noncomputable def zfb(call:zf)(n:Nat)(t0:z11)(t1:Int)(h:AHeap):R:=lett (newH h 34 [.int .i64 0,.int .u64 0,.int .u64 0,.int .u64 0,.int .u64 0,.nsl]) fun h_2=>lett (newH h_2 34 [.int .i64 0,.int .u64 0,.int .u64 0,.int .u64 0,.int .u64 0,.nsl]) fun h_5=>obind (z16 h_5 6 ([.int .i64 2,.int .u64 0,.int .u64 0,.int .u64 0,.int .u64 0,.nsl]:List AV) (z7 h_2)) fun h_7=>lett (decide (t1<(z7b t0))) fun (t21:Bool)=>lett (fun (t27:Bool) (h_11:AHeap)=>lett (fun (t1_17:Int) (h_18:AHeap)=>lett (newH h_18 103 [.bool false,.bool false,.bool false,.bool false,.bool false,.bool false,.bool false,.bool false,.bool false,.bool false,.bool false,.bool false,.bool false,.bool false,.bool false,.bool false,.bool false,.bool false,.bool false,.bool false,.bool false,.bool false,.bool false,.bool false,.bool false,.bool false,.bool false,.bool false,.bool false,.bool false,.bool false,.bool false,.bool false,.bool false,.bool false,.bool false,.bool false,.bool false,.bool false,.bool false,.bool false,.bool false,.bool false,.bool false,.bool false,.bool false,.bool false,.bool false,.bool false,.bool false,.bool false,.bool false,.bool false,.bool false,.bool false,.bool false,.bool false,.bool false,.bool false,.bool false,.bool false,.bool false,.bool false,.bool false,.bool false,.bool false,.bool false,.bool false,.bool false,.bool false,.bool false,.bool false,.bool false,.bool false,.bool false,.bool false,.bool false,.bool false,.bool false,.bool false,.bool false,.bool false,.bool false,.bool false,.bool false,.bool false,.bool false,.bool false,.bool false,.bool false,.bool false,.bool false,.bool false,.bool false,.bool false,.bool false,.bool false,.bool false,.bool false,.bool false,.bool false,.bool false,.bool false,.bool false,.bool false,.bool false,.bool false,.bool false,.bool false,.bool false,.bool false,.bool false,.bool false,.bool false,.bool false,.bool false,.bool false,.bool false,.bool false,.bool false,.bool false,.bool false,.bool false,.bool false,.bool false,.bool false,.bool false,.bool false,.bool false,.bool false,.bool false,.bool false,.bool false,.bool false,.bool false,.bool false,.bool false,.bool false,.bool false,.bool false,.bool false,.bool false,.bool false,.bool false,.bool false,.bool false,.bool false,.bool false,.bool false,.bool false,.bool false,.bool false,.bool false,.bool false,.bool false,.bool false,.bool false,.bool false,.bool false,.bool false,.bool false,.bool false,.bool false,.bool false,.bool false,.bool false,.bool false,.bool false,.bool false,.bool false,.bool false,.bool false,.bool false,.bool false,.bool false,.bool false,.bool false,.bool false,.bool false,.bool false,.bool false,.bool false,.bool false,.bool false,.bool false,.bool false,.bool false,.bool false,.bool false,.bool false,.bool false,.bool false,.bool false,.bool false,.bool false,.bool false,.bool false,.bool false,.bool false,.bool false,.bool false,.bool false,.bool false,.bool false,.bool false,.bool false,.bool false,.bool false,.bool false,.bool false,.bool false,.bool false,.bool false,.bool false,.bool false,.bool false,.bool false,.bool false,.bool false,.bool false,.bool false,.bool false,.bool false,.bool false,.bool false,.bool false,.bool false,.bool false,.bool false,.bool false,.bool false,.bool false,.bool false,.bool false,.bool false,.bool false,.bool false,.bool false,.bool false,.bool false,.bool false,.bool false,.bool false,.bool false,.bool false,.bool false,.bool false,.bool false,.bool false,.bool false,.bool false,.bool false,.bool false,.bool false,.bool false,.bool false]) fun h_20=>lett (fun (t1_26:Int) (h_27:AHeap)=>lett (fun (h_32:AHeap)=>obind (z15 h_32 6 (z7 h_2)) fun t116=>lett (IntKind.i64.wrap (t1_26+1)) fun (t118:Int)=>obind (z16 h_32 6 t116 (z7 h)) fun h_36=>obind (z15 h_36 6 (z7 h)) fun w4=>some (.ret (.tup [.agg w4,.int .i64 t118,.bool true]),h_36)) fun k31=>zbf h_2 t27 h_18 k31 n 0 h_27) fun k25=>z85 call n t0 h h_18 k25 n t1_17 true h_20) fun k16=>ifB t27 (lett (IntKind.i64.wrap (t1+1)) fun (t30:Int)=>k16 t30 h_11) (k16 t1 h_11)) fun j27=>ifB t21 (obind (z1a2 t0 t1) fun t25=>lett ((t25:Int) == 94) fun (t26:Bool)=>j27 t26 h_7) (j27 false h_7)
theorem z309{call:zf}(hc:SaysAll Pg call){n:Nat}{t0:z11}{t1:Int}{h:AHeap}{rR:ARes}{hR:AHeap}(z:zfb call n t0 t1 h=some (rR,hR)):Says Pg 68 [z12 t0,.int .i64 t1] h rR hR:=by
 unfold zfb at z;refine sO Tryd.func68 fun w0 m0=>?_;refine wW [(0,z12 t0),(1,.int .i64 t1)] ?_;refine oG fun n1=>W.r ?_;refine oN 4 z fun h_2 z=>?_;refine oA 5 (.int .i64 0) ?_;refine oA 6 (.bool false) ?_;refine oV [(0,z12 t0),(1,.int .i64 t1),(4,z7 h)] (n1 ?_);refine oG fun n4=>W.r ?_;refine oA 17 (.agg ([.int .i64 2,.int .u64 0,.int .u64 0,.int .u64 0,.int .u64 0,.nsl]:List AV)) ?_;refine oN 7 z fun h_5 z=>?_;refine oW 34 (.agg ([.int .i64 2,.int .u64 0,.int .u64 0,.int .u64 0,.int .u64 0,.nsl]:List AV)) z fun h_7 z=>?_;refine oV [(0,z12 t0),(1,.int .i64 t1),(4,z7 h),(7,z7 h_2)] (n4 ?_);refine W.s (fun K9 n9 _ _ _=>?_);refine W.r ?_;refine oA 18 (.int .i64 t1) ?_;refine oA 19 (z12 t0) ?_;refine oA 20 (.int .i64 (z7b t0)) ?_;refine oB 21 z fun t21 z=>?_;refine oA 22 (.bool t21) ?_;obtain⟨j27,e12,z⟩:=lS z
 have J13:∀(t27:Bool) (h_11:AHeap),j27 t27 h_11=some (rR,hR)→WL Pg w0 m0 (Func.ntmps Tryd.f68) (y13 (y9 (y6 (y6 (z5f Tryd.f68))))) 10 K9 [(0,z12 t0),(1,.int .i64 t1),(4,z7 h),(7,z7 h_2),(27,.bool t27)] [] h_11:=by
  intro t27 h_11 z;rw[e12] at z;refine oA 8 (.bool t27) ?_;refine oV [(0,z12 t0),(1,.int .i64 t1),(4,z7 h),(7,z7 h_2),(8,.bool t27)] (n9 ?_);refine W.s (fun K14 n14 _ _ _=>?_);refine oG fun n15=>W.r ?_;refine oA 28 (.bool t27) ?_;refine oV [(0,z12 t0),(1,.int .i64 t1),(4,z7 h),(7,z7 h_2),(8,.bool t27),(28,.bool t27)] (n15 ?_);obtain⟨k16,e16,z⟩:=lS z
  have J16:∀(t1_17:Int) (h_18:AHeap),k16 t1_17 h_18=some (rR,hR)→Go w0 m0 (Func.ntmps Tryd.f68) (K14 .normal) [(0,z12 t0),(1,.int .i64 t1_17),(4,z7 h),(7,z7 h_2),(8,.bool t27)] [] h_18:=by
   intro t1_17 h_18 z;rw[e16] at z;refine n14 ?_;refine oG fun n19=>W.r ?_;refine oN 9 z fun h_20 z=>?_;refine oV [(0,z12 t0),(1,.int .i64 t1_17),(4,z7 h),(7,z7 h_2),(8,.bool t27),(9,z7 h_18)] (n19 ?_);refine oG fun n22=>W.r ?_;refine oA 10 (.bool true) ?_;refine oV [(0,z12 t0),(1,.int .i64 t1_17),(4,z7 h),(7,z7 h_2),(8,.bool t27),(9,z7 h_18),(10,.bool true)] (n22 ?_);refine W.s (fun K23 n23 _ q23 _=>?_);obtain⟨k25,e25,z⟩:=lS z
   have J25:∀(t1_26:Int) (h_27:AHeap),k25 t1_26 h_27=some (rR,hR)→Go w0 m0 (Func.ntmps Tryd.f68) (K23 .normal) [(1,.int .i64 t1_26),(4,z7 h),(7,z7 h_2),(8,.bool t27),(9,z7 h_18)] [] h_27:=by
    intro t1_26 h_27 z;rw[e25] at z;refine n23 ?_;refine W.s (fun K28 n28 _ _ _=>?_);refine oG fun n29=>W.r ?_;refine oA 16 (.int .i64 0) ?_;refine oV [(1,.int .i64 t1_26),(4,z7 h),(7,z7 h_2),(8,.bool t27),(9,z7 h_18),(16,.int .i64 0)] (n29 ?_);obtain⟨k31,e31,z⟩:=lS z
    have J31:∀(h_32:AHeap),k31 h_32=some (rR,hR)→Go w0 m0 (Func.ntmps Tryd.f68) (K28 .normal) [(1,.int .i64 t1_26),(4,z7 h),(7,z7 h_2)] [] h_32:=by
     intro h_32 z;rw[e31] at z;refine n28 ?_;refine oG fun n33=>W.r ?_;refine oR 116 34 z fun t116 z=>?_;refine oA 117 (.int .i64 t1_26) ?_;refine oI 118 .i64 z fun t118 z=>?_;refine oW 34 (.agg t116) z fun h_36 z=>?_;refine oA 5 (.int .i64 t118) ?_;refine oA 6 (.bool true) ?_;refine oV [(4,z7 h),(5,.int .i64 t118),(6,.bool true)] (n33 (oY ?_));obtain⟨w4,e38,z⟩:=oS z;exact lZ z [.cell 4 34,.tmp 5,.tmp 6] [.agg w4,.int .i64 t118,.bool true] (rY e38 (rT (rT zd)))
    refine ye (by kernel_rfl) (fun K30 n30 s30 o30 q30 p30=>?_);refine y17 (by kernel_rfl) (fun I39 K39 b39 n39 e39 q39 p39=>?_)
    have L39:∀(m:Nat) (t16:Int) (h_40:AHeap),zbf h_2 t27 h_18 k31 m t16 h_40=some (rR,hR)→Go w0 m0 (Func.ntmps Tryd.f68) I39 [(1,.int .i64 t1_26),(4,z7 h),(7,z7 h_2),(8,.bool t27),(9,z7 h_18),(16,.int .i64 t16)] [] h_40:=by
     intro m
     induction m with
     |zero=>intro t16 h_40 z;cases z
     |succ m ih39=>
      intro t16 h_40 z;rw[z14e] at z;unfold zd1 at z;refine b39 ?_;refine W.s (fun _ n41 e41 _ _=>?_);refine oG fun n42=>W.r ?_;refine oA 96 (.int .i64 t16) ?_;refine oB 97 z fun t97 z=>?_;refine oV [(1,.int .i64 t1_26),(4,z7 h),(7,z7 h_2),(8,.bool t27),(9,z7 h_18),(16,.int .i64 t16),(97,.bool t97)] (n42 ?_)
      cases t97 with
      |true=>
       refine oT z fun z=>?_;refine oZ (n41 ?_);refine oG fun n44=>?_;refine ye (by kernel_rfl) (fun K45 n45 s45 o45 q45 p45=>?_);refine oG fun n46=>W.r ?_;refine oA 100 (.int .i64 t16) ?_;refine oQ 101 103 4 .i64 z fun t101 z=>?_;refine oLb 102 4 z fun t102 z=>?_;refine oA 103 (.bool t27) ?_;refine oB 104 z fun t104 z=>?_;refine oV [(1,.int .i64 t1_26),(4,z7 h),(7,z7 h_2),(8,.bool t27),(9,z7 h_18),(16,.int .i64 t16),(104,.bool t104)] (n46 ?_);obtain⟨k51,e51,z⟩:=lS z
       have J51:∀(h_52:AHeap),k51 h_52=some (rR,hR)→Go w0 m0 (Func.ntmps Tryd.f68) (K45 .normal) [(1,.int .i64 t1_26),(4,z7 h),(7,z7 h_2),(8,.bool t27),(9,z7 h_18),(16,.int .i64 t16)] [] h_52:=by
        intro h_52 z;rw[e51] at z;refine n45 (n44 (W.r ?_));refine oA 98 (.int .i64 t16) ?_;refine oI 99 .i64 z fun t99 z=>?_;refine oA 16 (.int .i64 t99) ?_;refine oV [(1,.int .i64 t1_26),(4,z7 h),(7,z7 h_2),(8,.bool t27),(9,z7 h_18),(16,.int .i64 t99)] (n39 ?_);exact gW _ (ih39 _ _ z)
       cases t104 with
       |true=>
        refine oT z fun z=>?_;refine y26 (by kernel_rfl) (hc.ok w0) (plan:=[0,1,2,3,4,5,6,7,8,9,10,11]) (by kernel_rfl) (by kernel_rfl) (by kernel_rfl) ?_;refine WD.a 0 (some 105) (.int .i64 t16) h_40 ?_;obtain⟨t106,e54,z⟩:=oS z;refine WD.b 0 (some 106) (.int .i64 t106) h_40 (z268 (P:=Pg) (h:=h_40) (t:=3) (lit:=true) e54) ?_;refine WD.a 0 (some 107) (AV.ptr (AHeap.next h_2) 1) h_40 ?_;obtain⟨t108,e55,z⟩:=oS z;refine WD.b 0 (some 108) t108 h_40 (z9b (P:=Pg) (h:=h_40) (t:=31) (e':=29) (k:=.i64) (by kernel_rfl) (by kernel_rfl) (by kernel_rfl) e55) ?_
        replace z:=oS z;obtain⟨v109,e56,z⟩:=z
        replace z:=oS z;obtain⟨t109,c57,z⟩:=z
        have c57:=z26 c57;subst c57;refine WD.b 1 (some 109) (.int .u64 t109) h_40 (z1f (P:=Pg) (h:=h_40) (t:=29) (by kernel_rfl) e56) ?_;refine WD.a 0 (some 110) (.int .i64 t16) h_40 ?_;obtain⟨t111,e58,z⟩:=oS z;refine WD.b 0 (some 111) (.int .i64 t111) h_40 (z266 (P:=Pg) (h:=h_40) (t:=3) (lit:=true) e58) ?_;obtain⟨t112,e59,z⟩:=oS z;refine WD.b 0 (some 112) (.int .u64 t112) h_40 (z262 (P:=Pg) (h:=h_40) (t:=29) (k':=.i64) (lit:=true) e59) ?_;obtain⟨t113,e60,z⟩:=lS z;refine WD.val (d:=(some 113)) (v:=.int .u64 t113) (h':=h_40) (by kernel_rfl) (by kernel_rfl) (zb4 (AV.int .u64) e60 (by kernel_rfl)) (k:=0) (by kernel_rfl) (fun e=>absurd e (by decide)) (by decide) ?_;refine WD.a 0 (some 114) (AV.ptr (AHeap.next h_2) 1) h_40 ?_;obtain⟨t115,e61,z⟩:=oS z;refine WD.b 0 (some 115) t115 h_40 (z9b (P:=Pg) (h:=h_40) (t:=31) (e':=29) (k:=.i64) (by kernel_rfl) (by kernel_rfl) (by kernel_rfl) e61) ?_;obtain⟨h_62,e63,z⟩:=oS z;refine WD.eff (h':=h_62) (by kernel_rfl) (by kernel_rfl) (Eq.trans (by kernel_rfl) (z61 (P:=Pg) (h:=h_40) (t:=29) (v:=(.int .u64 t113)) (by kernel_rfl) (by kernel_rfl) e63)) (k:=2) (by kernel_rfl) (fun _=>(by kernel_rfl)) (by decide) ?_;refine WD.nil ?_;refine gW [(1,.int .i64 t1_26),(4,z7 h),(7,z7 h_2),(8,.bool t27),(9,z7 h_18),(16,.int .i64 t16)] ?_;exact gW _ (J51 _ z)
       |false=>
        refine oU z fun z=>?_;refine oZ ?_;exact gW _ (J51 _ z)
      |false=>
       refine oU z fun z=>?_;refine W.exit (by kernel_rfl) ?_;refine e41 (e39 ?_);refine s30 (by kernel_rfl) ?_;exact gW _ (J31 _ z)
    exact gW _ (L39 _ _ _ z)
   refine ye (by kernel_rfl) (fun K24 n24 s24 o24 q24 p24=>?_);refine y17 (by kernel_rfl) (fun I64 K64 b64 n64 e64 q64 p64=>?_)
   have L64:∀(m:Nat) (t1_65:Int) (t10:Bool) (h_66:AHeap),z85 call n t0 h h_18 k25 m t1_65 t10 h_66=some (rR,hR)→Go w0 m0 (Func.ntmps Tryd.f68) I64 [(0,z12 t0),(1,.int .i64 t1_65),(4,z7 h),(7,z7 h_2),(8,.bool t27),(9,z7 h_18),(10,.bool t10)] [] h_66:=by
    intro m
    induction m with
    |zero=>intro t1_65 t10 h_66 z;cases z
    |succ m ih64=>
     intro t1_65 t10 h_66 z;rw[zb6] at z;unfold z71 at z;refine b64 ?_;refine W.s (fun _ n67 e67 _ _=>?_);refine W.s (fun K68 n68 _ _ _=>?_);refine W.r ?_;refine oA 31 (.bool t10) ?_;refine oA 32 (.bool t10) ?_;obtain⟨j37,e70,z⟩:=lS z
     have J71:∀(t37:Bool) (h_69:AHeap),j37 t37 h_69=some (rR,hR)→WL Pg w0 m0 (Func.ntmps Tryd.f68) (y13 (y9 (y9 (y9 (y9 (y9 (y6 (y6 (y6 (y6 (y6 (y6 (z5f Tryd.f68))))))))))))) 7 K68 [(0,z12 t0),(1,.int .i64 t1_65),(4,z7 h),(7,z7 h_2),(8,.bool t27),(9,z7 h_18),(37,.bool t37)] [] h_69:=by
      intro t37 h_69 z;rw[e70] at z;refine oA 38 (.bool t37) ?_;obtain⟨j43,e73,z⟩:=lS z
      have J74:∀(t43:Bool) (h_72:AHeap),j43 t43 h_72=some (rR,hR)→WL Pg w0 m0 (Func.ntmps Tryd.f68) (y13 (y9 (y9 (y9 (y9 (y9 (y6 (y6 (y6 (y6 (y6 (y6 (z5f Tryd.f68))))))))))))) 13 K68 [(0,z12 t0),(1,.int .i64 t1_65),(4,z7 h),(7,z7 h_2),(8,.bool t27),(9,z7 h_18),(43,.bool t43)] [] h_72:=by
       intro t43 h_72 z;rw[e73] at z;refine oV [(0,z12 t0),(1,.int .i64 t1_65),(4,z7 h),(7,z7 h_2),(8,.bool t27),(9,z7 h_18),(43,.bool t43)] (n68 ?_)
       cases t43 with
       |true=>
        refine oT z fun z=>?_;refine oZ (n67 ?_);refine ye (by kernel_rfl) (fun K75 n75 s75 o75 q75 p75=>?_);refine oG fun n76=>W.r ?_;refine oA 10 (.bool false) ?_;refine oV [(0,z12 t0),(1,.int .i64 t1_65),(4,z7 h),(7,z7 h_2),(8,.bool t27),(9,z7 h_18),(10,.bool false)] (n76 ?_);refine oG fun n77=>W.r ?_;refine oA 45 (z12 t0) ?_;refine oA 46 (.int .i64 t1_65) ?_;refine oC hc (some 47) z fun r47 h_78 z=>?_;refine oA 44 r47 ?_;refine oEi 48 z fun t48 z=>?_;refine oEi 49 z fun t49 z=>?_;refine oEb 50 z fun t50 z=>?_;refine oA 11 (.int .u8 t48) ?_;refine oA 12 (.int .i64 t49) ?_;refine oA 13 (.bool t50) ?_;refine oV [(0,z12 t0),(4,z7 h),(7,z7 h_2),(8,.bool t27),(9,z7 h_18),(10,.bool false),(11,.int .u8 t48),(12,.int .i64 t49),(13,.bool t50)] (n77 ?_);refine oH fun n86 q86=>?_;refine oG fun n87=>W.r ?_;refine oA 51 (.bool t50) ?_;refine oB 52 z fun t52 z=>?_;refine oV [(0,z12 t0),(4,z7 h),(7,z7 h_2),(8,.bool t27),(9,z7 h_18),(10,.bool false),(11,.int .u8 t48),(12,.int .i64 t49),(52,.bool t52)] (n87 ?_)
        cases t52 with
        |true=>
         refine oT z fun z=>?_;refine oG fun n89=>W.r ?_;refine oA 53 (.agg ([.int .i64 0,.int .u64 0,.int .u64 0,.int .u64 0,.int .u64 0,.nsl]:List AV)) ?_;refine oA 54 (.int .i64 t49) ?_;refine oW 34 (.agg ([.int .i64 0,.int .u64 0,.int .u64 0,.int .u64 0,.int .u64 0,.nsl]:List AV)) z fun h_90 z=>?_;refine oA 5 (.int .i64 t49) ?_;refine oA 6 (.bool false) ?_;refine oV [(4,z7 h),(5,.int .i64 t49),(6,.bool false)] (n89 (oY (q86 (q75 (q64 (q24 (q23 ?_)))))));obtain⟨w4_93,e92,z⟩:=oS z;exact lZ z [.cell 4 34,.tmp 5,.tmp 6] [.agg w4_93,.int .i64 t49,.bool false] (rY e92 (rT (rT zd)))
        |false=>
         refine oU z fun z=>?_;refine oZ (n86 ?_);refine oG fun n94=>W.r ?_;refine oA 55 (.int .i64 t49) ?_;refine oA 1 (.int .i64 t49) ?_;refine oV [(0,z12 t0),(1,.int .i64 t49),(4,z7 h),(7,z7 h_2),(8,.bool t27),(9,z7 h_18),(10,.bool false),(11,.int .u8 t48)] (n94 ?_);refine oG fun n95=>W.r ?_;refine oA 56 (.int .u8 t48) ?_;refine oA 14 (.int .u8 t48) ?_;refine oV [(0,z12 t0),(1,.int .i64 t49),(4,z7 h),(7,z7 h_2),(8,.bool t27),(9,z7 h_18),(10,.bool false),(11,.int .u8 t48),(14,.int .u8 t48)] (n95 ?_);refine W.s (fun K96 n96 _ q96 _=>?_);refine W.s (fun K97 n97 _ _ _=>?_);refine W.r ?_;refine oA 57 (.int .i64 t49) ?_;refine oA 58 (z12 t0) ?_;refine oA 59 (.int .i64 (z7b t0)) ?_;refine oB 60 z fun t60 z=>?_;refine oA 61 (.bool t60) ?_;obtain⟨j66,e100,z⟩:=lS z
         have J101:∀(t66:Bool) (h_99:AHeap),j66 t66 h_99=some (rR,hR)→WL Pg w0 m0 (Func.ntmps Tryd.f68) (y13 (y9 (y9 (y6 (y6 (y6 (y6 (y6 (y9 (y6 (y9 (y9 (y9 (y6 (y6 (y6 (y6 (y6 (y6 (z5f Tryd.f68)))))))))))))))))))) 10 K97 [(0,z12 t0),(1,.int .i64 t49),(4,z7 h),(7,z7 h_2),(8,.bool t27),(9,z7 h_18),(10,.bool false),(11,.int .u8 t48),(14,.int .u8 t48),(66,.bool t66)] [] h_99:=by
          intro t66 h_99 z;rw[e100] at z;refine oV [(0,z12 t0),(1,.int .i64 t49),(4,z7 h),(7,z7 h_2),(8,.bool t27),(9,z7 h_18),(10,.bool false),(11,.int .u8 t48),(14,.int .u8 t48),(66,.bool t66)] (n97 ?_);obtain⟨k102,e102,z⟩:=lS z
          have J102:∀(t1_103:Int) (t14:Int) (h_104:AHeap),k102 t1_103 t14 h_104=some (rR,hR)→Go w0 m0 (Func.ntmps Tryd.f68) (K96 .normal) [(0,z12 t0),(1,.int .i64 t1_103),(4,z7 h),(7,z7 h_2),(8,.bool t27),(9,z7 h_18),(10,.bool false),(11,.int .u8 t48),(14,.int .u8 t14)] [] h_104:=by
           intro t1_103 t14 h_104 z;rw[e102] at z;refine n96 ?_;refine oG fun n105=>W.r ?_;refine oA 86 (.int .u8 t48) ?_;refine oI 87 .i64 z fun t87 z=>?_;refine oA 15 (.int .i64 t87) ?_;refine oV [(0,z12 t0),(1,.int .i64 t1_103),(4,z7 h),(7,z7 h_2),(8,.bool t27),(9,z7 h_18),(10,.bool false),(14,.int .u8 t14),(15,.int .i64 t87)] (n105 ?_);obtain⟨k108,e108,z⟩:=lS z
           have J108:∀(h_109:AHeap),k108 h_109=some (rR,hR)→Go w0 m0 (Func.ntmps Tryd.f68) (K75 .normal) [(0,z12 t0),(1,.int .i64 t1_103),(4,z7 h),(7,z7 h_2),(8,.bool t27),(9,z7 h_18),(10,.bool false)] [] h_109:=by
            intro h_109 z;rw[e108] at z;refine n75 (n64 ?_);exact gW _ (ih64 _ _ _ z)
           refine ye (by kernel_rfl) (fun K107 n107 s107 o107 q107 p107=>?_);refine y17 (by kernel_rfl) (fun I110 K110 b110 n110 e110 q110 p110=>?_)
           have L110:∀(m:Nat) (t15:Int) (h_111:AHeap),z9c h_18 t14 k108 m t15 h_111=some (rR,hR)→Go w0 m0 (Func.ntmps Tryd.f68) I110 [(0,z12 t0),(1,.int .i64 t1_103),(4,z7 h),(7,z7 h_2),(8,.bool t27),(9,z7 h_18),(10,.bool false),(14,.int .u8 t14),(15,.int .i64 t15)] [] h_111:=by
            intro m
            induction m with
            |zero=>intro t15 h_111 z;cases z
            |succ m ih110=>
             intro t15 h_111 z;rw[z14d] at z;unfold zd0 at z;refine b110 ?_;refine W.s (fun _ n112 e112 _ _=>?_);refine oG fun n113=>W.r ?_;refine oA 88 (.int .i64 t15) ?_;refine oA 89 (.int .u8 t14) ?_;refine oI 90 .i64 z fun t90 z=>?_;refine oB 91 z fun t91 z=>?_;refine oV [(0,z12 t0),(1,.int .i64 t1_103),(4,z7 h),(7,z7 h_2),(8,.bool t27),(9,z7 h_18),(10,.bool false),(14,.int .u8 t14),(15,.int .i64 t15),(91,.bool t91)] (n113 ?_)
             cases t91 with
             |true=>
              refine oT z fun z=>?_;refine oZ (n112 ?_);refine oG fun n116=>?_;refine ye (by kernel_rfl) (fun K117 n117 s117 o117 q117 p117=>?_);refine W.r ?_;refine oA 94 (.int .i64 t15) ?_;refine oQ 95 103 4 .i64 z fun t95 z=>?_;refine oW 4 (.bool true) z fun h_119 z=>?_;refine oV [(0,z12 t0),(1,.int .i64 t1_103),(4,z7 h),(7,z7 h_2),(8,.bool t27),(9,z7 h_18),(10,.bool false),(14,.int .u8 t14),(15,.int .i64 t15)] (n117 (n116 (W.r ?_)));refine oA 92 (.int .i64 t15) ?_;refine oI 93 .i64 z fun t93 z=>?_;refine oA 15 (.int .i64 t93) ?_;refine oV [(0,z12 t0),(1,.int .i64 t1_103),(4,z7 h),(7,z7 h_2),(8,.bool t27),(9,z7 h_18),(10,.bool false),(14,.int .u8 t14),(15,.int .i64 t93)] (n110 ?_);exact gW _ (ih110 _ _ z)
             |false=>
              refine oU z fun z=>?_;refine W.exit (by kernel_rfl) ?_;refine e112 (e110 ?_);refine s107 (by kernel_rfl) ?_;exact gW _ (J108 _ z)
           exact gW _ (L110 _ _ _ z)
          cases t66 with
          |true=>
           refine oT z fun z=>?_;refine oG fun n122=>W.r ?_;refine oA 68 (z12 t0) ?_;refine oA 69 (.int .i64 t49) ?_;refine oI 70 .i64 z fun t70 z=>?_;refine oC hc (some 71) z fun r71 h_124 z=>?_;refine oA 67 r71 ?_;refine oEi 72 z fun t72 z=>?_;refine oEi 73 z fun t73 z=>?_;refine oEb 74 z fun t74 z=>?_;refine oA 14 (.int .u8 t72) ?_;refine oA 12 (.int .i64 t73) ?_;refine oA 13 (.bool t74) ?_;refine oV [(0,z12 t0),(4,z7 h),(7,z7 h_2),(8,.bool t27),(9,z7 h_18),(10,.bool false),(11,.int .u8 t48),(12,.int .i64 t73),(13,.bool t74),(14,.int .u8 t72)] (n122 ?_);refine oH fun n132 q132=>?_;refine oG fun n133=>W.r ?_;refine oA 75 (.bool t74) ?_;refine oB 76 z fun t76 z=>?_;refine oV [(0,z12 t0),(4,z7 h),(7,z7 h_2),(8,.bool t27),(9,z7 h_18),(10,.bool false),(11,.int .u8 t48),(12,.int .i64 t73),(14,.int .u8 t72),(76,.bool t76)] (n133 ?_)
           cases t76 with
           |true=>
            refine oT z fun z=>?_;refine oG fun n135=>W.r ?_;refine oA 77 (.agg ([.int .i64 0,.int .u64 0,.int .u64 0,.int .u64 0,.int .u64 0,.nsl]:List AV)) ?_;refine oA 78 (.int .i64 t73) ?_;refine oW 34 (.agg ([.int .i64 0,.int .u64 0,.int .u64 0,.int .u64 0,.int .u64 0,.nsl]:List AV)) z fun h_136 z=>?_;refine oA 5 (.int .i64 t73) ?_;refine oA 6 (.bool false) ?_;refine oV [(4,z7 h),(5,.int .i64 t73),(6,.bool false)] (n135 (oY (q132 (q96 (q75 (q64 (q24 (q23 ?_))))))));obtain⟨w4_139,e138,z⟩:=oS z;exact lZ z [.cell 4 34,.tmp 5,.tmp 6] [.agg w4_139,.int .i64 t73,.bool false] (rY e138 (rT (rT zd)))
           |false=>
            refine oU z fun z=>?_;refine oZ (n132 ?_);refine oG fun n140=>W.r ?_;refine oA 79 (.int .i64 t73) ?_;refine oA 1 (.int .i64 t73) ?_;refine oV [(0,z12 t0),(1,.int .i64 t73),(4,z7 h),(7,z7 h_2),(8,.bool t27),(9,z7 h_18),(10,.bool false),(11,.int .u8 t48),(14,.int .u8 t72)] (n140 ?_);refine oG fun n141=>W.r ?_;refine oA 80 (.int .u8 t72) ?_;refine oA 81 (.int .u8 t48) ?_;refine oB 82 z fun t82 z=>?_;refine oV [(0,z12 t0),(1,.int .i64 t73),(4,z7 h),(7,z7 h_2),(8,.bool t27),(9,z7 h_18),(10,.bool false),(11,.int .u8 t48),(14,.int .u8 t72),(82,.bool t82)] (n141 ?_)
            cases t82 with
            |true=>
             refine oT z fun z=>?_;refine oG fun n143=>W.r ?_;refine oA 83 (.agg ([.int .i64 0,.int .u64 0,.int .u64 0,.int .u64 0,.int .u64 0,.nsl]:List AV)) ?_;refine oA 84 (.int .i64 t73) ?_;refine oI 85 .i64 z fun t85 z=>?_;refine oW 34 (.agg ([.int .i64 0,.int .u64 0,.int .u64 0,.int .u64 0,.int .u64 0,.nsl]:List AV)) z fun h_145 z=>?_;refine oA 5 (.int .i64 t85) ?_;refine oA 6 (.bool false) ?_;refine oV [(4,z7 h),(5,.int .i64 t85),(6,.bool false)] (n143 (oY (q96 (q75 (q64 (q24 (q23 ?_)))))));obtain⟨w4_148,e147,z⟩:=oS z;exact lZ z [.cell 4 34,.tmp 5,.tmp 6] [.agg w4_148,.int .i64 t85,.bool false] (rY e147 (rT (rT zd)))
            |false=>
             refine oU z fun z=>?_;refine oZ ?_;exact gW _ (J102 _ _ _ z)
          |false=>
           refine oU z fun z=>?_;refine oZ ?_;exact gW _ (J102 _ _ _ z)
         cases t60 with
         |true=>
          replace z:=z8f z
          refine oA 62 (z12 t0) ?_;refine oA 63 (.int .i64 t49) ?_;refine oX 64 9 .i64 z fun t64 z=>?_;refine oB 65 z fun t65 z=>?_;refine oA 66 (.bool t65) ?_;exact lW _ (J101 _ _ z)
         |false=>
          replace z:=z90 z
          refine WL.o (some 62) ?_;refine WL.o (some 63) ?_;refine WL.o (some 64) ?_;refine WL.o (some 65) ?_;refine oA 66 (.bool false) ?_;exact lW _ (J101 _ _ z)
       |false=>
        refine oU z fun z=>?_;refine W.exit (by kernel_rfl) ?_;refine e67 (e64 ?_);refine s24 (by kernel_rfl) ?_;exact gW _ (J25 _ _ z)
      cases t37 with
      |true=>
       replace z:=z8f z
       refine WL.o (some 39) ?_;refine WL.o (some 40) ?_;refine WL.o (some 41) ?_;refine WL.o (some 42) ?_;refine oA 43 (.bool true) ?_;exact lW _ (J74 _ _ z)
      |false=>
       replace z:=z90 z
       refine oA 39 (z12 t0) ?_;refine oA 40 (.int .i64 t1_65) ?_;refine oX 41 9 .i64 z fun t41 z=>?_;refine oB 42 z fun t42 z=>?_;refine oA 43 (.bool t42) ?_;exact lW _ (J74 _ _ z)
     cases t10 with
     |true=>
      replace z:=z8f z
      refine WL.o (some 33) ?_;refine WL.o (some 34) ?_;refine WL.o (some 35) ?_;refine WL.o (some 36) ?_;refine oA 37 (.bool true) ?_;exact lW _ (J71 _ _ z)
     |false=>
      replace z:=z90 z
      refine oA 33 (.int .i64 t1_65) ?_;refine oA 34 (z12 t0) ?_;refine oA 35 (.int .i64 (z7b t0)) ?_;refine oB 36 z fun t36 z=>?_;refine oA 37 (.bool t36) ?_;exact lW _ (J71 _ _ z)
   exact gW _ (L64 _ _ _ _ z)
  cases t27 with
  |true=>
   refine oT z fun z=>?_;refine W.r ?_;refine oA 29 (.int .i64 t1) ?_;refine oI 30 .i64 z fun t30 z=>?_;refine oA 1 (.int .i64 t30) ?_;refine oV [(0,z12 t0),(1,.int .i64 t30),(4,z7 h),(7,z7 h_2),(8,.bool true)] ?_;exact gW _ (J16 _ _ z)
  |false=>
   refine oU z fun z=>?_;refine oZ ?_;exact gW _ (J16 _ _ z)
 cases t21 with
 |true=>
  replace z:=z8f z
  refine oA 23 (z12 t0) ?_;refine oA 24 (.int .i64 t1) ?_;refine oX 25 9 .i64 z fun t25 z=>?_;refine oB 26 z fun t26 z=>?_;refine oA 27 (.bool t26) ?_;exact lW _ (J13 _ _ z)
 |false=>
  replace z:=z90 z
  refine WL.o (some 23) ?_;refine WL.o (some 24) ?_;refine WL.o (some 25) ?_;refine WL.o (some 26) ?_;refine oA 27 (.bool false) ?_;exact lW _ (J13 _ _ z)
noncomputable def zcf(_:zf)(_:Nat)(t0:z11)(t1:Int)(h:AHeap):R:=lett ((t1:Int) == (z7b t0)) fun (t10:Bool)=>lett (fun (t16:Bool) (h_5:AHeap)=>lett (fun (t22:Bool) (h_8:AHeap)=>lett (fun (t28:Bool) (h_11:AHeap)=>lett (fun (t34:Bool) (h_14:AHeap)=>ifB t34 (some (.ret (.tup [.int .u8 0,.int .i64 t1,.bool false]),h_14)) (obind (z1a2 t0 t1) fun t38=>lett ((t38:Int) != 92) fun (t39:Bool)=>ifB t39 (obind (z1a2 t0 t1) fun t42=>lett (IntKind.i64.wrap (t1+1)) fun (t44:Int)=>some (.ret (.tup [.int .u8 t42,.int .i64 t44,.bool true]),h_14)) (lett (IntKind.i64.wrap (t1+1)) fun (t46:Int)=>lett ((t46:Int) == (z7b t0)) fun (t49:Bool)=>ifB t49 (lett (IntKind.i64.wrap (t1+1)) fun (t51:Int)=>some (.ret (.tup [.int .u8 0,.int .i64 t51,.bool false]),h_14)) (lett (IntKind.i64.wrap (t1+1)) fun (t54:Int)=>obind (z1a2 t0 t54) fun t55=>lett (IntKind.i64.wrap (t1+2)) fun (t57:Int)=>some (.ret (.tup [.int .u8 t55,.int .i64 t57,.bool true]),h_14))))) fun j34=>ifB t28 (j34 true h_11) (obind (z1a2 t0 t1) fun t32=>lett ((t32:Int) == 45) fun (t33:Bool)=>j34 t33 h_11)) fun j28=>ifB t22 (j28 true h_8) (obind (z1a2 t0 t1) fun t26=>lett ((t26:Int) == 94) fun (t27:Bool)=>j28 t27 h_8)) fun j22=>ifB t16 (j22 true h_5) (obind (z1a2 t0 t1) fun t20=>lett ((t20:Int) == 93) fun (t21:Bool)=>j22 t21 h_5)) fun j16=>ifB t10 (j16 true h) (obind (z1a2 t0 t1) fun t14=>lett ((t14:Int) == 91) fun (t15:Bool)=>j16 t15 h)
theorem z2bf{call:zf}(_:SaysAll Pg call){n:Nat}{t0:z11}{t1:Int}{h:AHeap}{rR:ARes}{hR:AHeap}(z:zcf call n t0 t1 h=some (rR,hR)):Says Pg 72 [z12 t0,.int .i64 t1] h rR hR:=by
 unfold zcf at z;refine sO Tryd.func72 fun w0 m0=>?_;refine wW [(0,z12 t0),(1,.int .i64 t1)] ?_;refine oG fun n1=>W.r ?_;refine oA 4 (.int .u8 0) ?_;refine oA 5 (.int .i64 0) ?_;refine oA 6 (.bool false) ?_;refine oV [(0,z12 t0),(1,.int .i64 t1)] (n1 ?_);refine oH fun n2 q2=>?_;refine W.s (fun K3 n3 _ _ _=>?_);refine W.r ?_;refine oA 7 (.int .i64 t1) ?_;refine oA 8 (z12 t0) ?_;refine oA 9 (.int .i64 (z7b t0)) ?_;refine oB 10 z fun t10 z=>?_;refine oA 11 (.bool t10) ?_;obtain⟨j16,e6,z⟩:=lS z
 have J7:∀(t16:Bool) (h_5:AHeap),j16 t16 h_5=some (rR,hR)→WL Pg w0 m0 (Func.ntmps Tryd.f72) (y13 (y9 (y9 (y6 (z5f Tryd.f72))))) 10 K3 [(0,z12 t0),(1,.int .i64 t1),(16,.bool t16)] [] h_5:=by
  intro t16 h_5 z;rw[e6] at z;refine oA 17 (.bool t16) ?_;obtain⟨j22,e9,z⟩:=lS z
  have J10:∀(t22:Bool) (h_8:AHeap),j22 t22 h_8=some (rR,hR)→WL Pg w0 m0 (Func.ntmps Tryd.f72) (y13 (y9 (y9 (y6 (z5f Tryd.f72))))) 16 K3 [(0,z12 t0),(1,.int .i64 t1),(22,.bool t22)] [] h_8:=by
   intro t22 h_8 z;rw[e9] at z;refine oA 23 (.bool t22) ?_;obtain⟨j28,e12,z⟩:=lS z
   have J13:∀(t28:Bool) (h_11:AHeap),j28 t28 h_11=some (rR,hR)→WL Pg w0 m0 (Func.ntmps Tryd.f72) (y13 (y9 (y9 (y6 (z5f Tryd.f72))))) 22 K3 [(0,z12 t0),(1,.int .i64 t1),(28,.bool t28)] [] h_11:=by
    intro t28 h_11 z;rw[e12] at z;refine oA 29 (.bool t28) ?_;obtain⟨j34,e15,z⟩:=lS z
    have J16:∀(t34:Bool) (h_14:AHeap),j34 t34 h_14=some (rR,hR)→WL Pg w0 m0 (Func.ntmps Tryd.f72) (y13 (y9 (y9 (y6 (z5f Tryd.f72))))) 28 K3 [(0,z12 t0),(1,.int .i64 t1),(34,.bool t34)] [] h_14:=by
     intro t34 h_14 z;rw[e15] at z;refine oV [(0,z12 t0),(1,.int .i64 t1),(34,.bool t34)] (n3 ?_)
     cases t34 with
     |true=>
      refine oT z fun z=>?_;refine oG fun n17=>W.r ?_;refine oA 35 (.int .i64 t1) ?_;refine oA 4 (.int .u8 0) ?_;refine oA 5 (.int .i64 t1) ?_;refine oA 6 (.bool false) ?_;refine oV [(4,.int .u8 0),(5,.int .i64 t1),(6,.bool false)] (n17 (oY (q2 ?_)));exact lZ z [.tmp 4,.tmp 5,.tmp 6] [.int .u8 0,.int .i64 t1,.bool false] (rT (rT (rT zd)))
     |false=>
      refine oU z fun z=>?_;refine oZ (n2 ?_);refine oH fun n18 q18=>?_;refine oG fun n19=>W.r ?_;refine oA 36 (z12 t0) ?_;refine oA 37 (.int .i64 t1) ?_;refine oX 38 9 .i64 z fun t38 z=>?_;refine oB 39 z fun t39 z=>?_;refine oV [(0,z12 t0),(1,.int .i64 t1),(39,.bool t39)] (n19 ?_)
      cases t39 with
      |true=>
       refine oT z fun z=>?_;refine oG fun n22=>W.r ?_;refine oA 40 (z12 t0) ?_;refine oA 41 (.int .i64 t1) ?_;refine oX 42 9 .i64 z fun t42 z=>?_;refine oA 43 (.int .i64 t1) ?_;refine oI 44 .i64 z fun t44 z=>?_;refine oA 4 (.int .u8 t42) ?_;refine oA 5 (.int .i64 t44) ?_;refine oA 6 (.bool true) ?_;refine oV [(4,.int .u8 t42),(5,.int .i64 t44),(6,.bool true)] (n22 (oY (q18 ?_)));exact lZ z [.tmp 4,.tmp 5,.tmp 6] [.int .u8 t42,.int .i64 t44,.bool true] (rT (rT (rT zd)))
      |false=>
       refine oU z fun z=>?_;refine oZ (n18 ?_);refine oH fun n25 q25=>?_;refine oG fun n26=>W.r ?_;refine oA 45 (.int .i64 t1) ?_;refine oI 46 .i64 z fun t46 z=>?_;refine oA 47 (z12 t0) ?_;refine oA 48 (.int .i64 (z7b t0)) ?_;refine oB 49 z fun t49 z=>?_;refine oV [(0,z12 t0),(1,.int .i64 t1),(49,.bool t49)] (n26 ?_)
       cases t49 with
       |true=>
        refine oT z fun z=>?_;refine oG fun n29=>W.r ?_;refine oA 50 (.int .i64 t1) ?_;refine oI 51 .i64 z fun t51 z=>?_;refine oA 4 (.int .u8 0) ?_;refine oA 5 (.int .i64 t51) ?_;refine oA 6 (.bool false) ?_;refine oV [(4,.int .u8 0),(5,.int .i64 t51),(6,.bool false)] (n29 (oY (q25 ?_)));exact lZ z [.tmp 4,.tmp 5,.tmp 6] [.int .u8 0,.int .i64 t51,.bool false] (rT (rT (rT zd)))
       |false=>
        refine oU z fun z=>?_;refine oZ (n25 ?_);refine oG fun n31=>W.r ?_;refine oA 52 (z12 t0) ?_;refine oA 53 (.int .i64 t1) ?_;refine oI 54 .i64 z fun t54 z=>?_;refine oX 55 9 .i64 z fun t55 z=>?_;refine oA 56 (.int .i64 t1) ?_;refine oI 57 .i64 z fun t57 z=>?_;refine oA 4 (.int .u8 t55) ?_;refine oA 5 (.int .i64 t57) ?_;refine oA 6 (.bool true) ?_;refine oV [(4,.int .u8 t55),(5,.int .i64 t57),(6,.bool true)] (n31 (oY ?_));exact lZ z [.tmp 4,.tmp 5,.tmp 6] [.int .u8 t55,.int .i64 t57,.bool true] (rT (rT (rT zd)))
    cases t28 with
    |true=>
     replace z:=z8f z
     refine WL.o (some 30) ?_;refine WL.o (some 31) ?_;refine WL.o (some 32) ?_;refine WL.o (some 33) ?_;refine oA 34 (.bool true) ?_;exact lW _ (J16 _ _ z)
    |false=>
     replace z:=z90 z
     refine oA 30 (z12 t0) ?_;refine oA 31 (.int .i64 t1) ?_;refine oX 32 9 .i64 z fun t32 z=>?_;refine oB 33 z fun t33 z=>?_;refine oA 34 (.bool t33) ?_;exact lW _ (J16 _ _ z)
   cases t22 with
   |true=>
    replace z:=z8f z
    refine WL.o (some 24) ?_;refine WL.o (some 25) ?_;refine WL.o (some 26) ?_;refine WL.o (some 27) ?_;refine oA 28 (.bool true) ?_;exact lW _ (J13 _ _ z)
   |false=>
    replace z:=z90 z
    refine oA 24 (z12 t0) ?_;refine oA 25 (.int .i64 t1) ?_;refine oX 26 9 .i64 z fun t26 z=>?_;refine oB 27 z fun t27 z=>?_;refine oA 28 (.bool t27) ?_;exact lW _ (J13 _ _ z)
  cases t16 with
  |true=>
   replace z:=z8f z
   refine WL.o (some 18) ?_;refine WL.o (some 19) ?_;refine WL.o (some 20) ?_;refine WL.o (some 21) ?_;refine oA 22 (.bool true) ?_;exact lW _ (J10 _ _ z)
  |false=>
   replace z:=z90 z
   refine oA 18 (z12 t0) ?_;refine oA 19 (.int .i64 t1) ?_;refine oX 20 9 .i64 z fun t20 z=>?_;refine oB 21 z fun t21 z=>?_;refine oA 22 (.bool t21) ?_;exact lW _ (J10 _ _ z)
 cases t10 with
 |true=>
  replace z:=z8f z
  refine WL.o (some 12) ?_;refine WL.o (some 13) ?_;refine WL.o (some 14) ?_;refine WL.o (some 15) ?_;refine oA 16 (.bool true) ?_;exact lW _ (J7 _ _ z)
 |false=>
  replace z:=z90 z
  refine oA 12 (z12 t0) ?_;refine oA 13 (.int .i64 t1) ?_;refine oX 14 9 .i64 z fun t14 z=>?_;refine oB 15 z fun t15 z=>?_;refine oA 16 (.bool t15) ?_;exact lW _ (J7 _ _ z)
noncomputable def worldRF(n:Nat)(call:zf):zf:=z2f0 [(31,fn3 Da Ds Dv (z162 call n)),(48,fn2 Dv Dv (z161 call n)),(49,fn3 Da Ds Dv (z12b call n)),(32,gcF (fn1 Ds (zcc call n))),(15,gcF (fn2 Da Ds (z12c call n))),(47,gcF (fn2 Da (Di .u8) (z16f call n))),(50,gcF (fn1 Da (zdc call n))),(34,fn3 Da Ds Dv (z160 call n)),(20,gcF (fn2 Da Ds (z12d call n))),(16,fn1 Dv (z166 call n)),(29,gcF (fn1 (Di .i64) (z198 call n))),(13,gcF (fn1 Da (z76 call n))),(27,gcF (fn1 Ds (z80 call n))),(28,gcF (fn1 Ds (z163 call n))),(43,gcF (fn1 (Di .u8) (z16e call n))),(45,gcF (fn0 (z170 call n))),(44,fn2 (Di .i64) Dv (zff call n)),(30,gcF (fn2 Ds (Di .i64) (z164 call n))),(46,gcF (fn2 Ds (Di .i64) (z197 call n))),(58,gcF (fn2 Ds (Di .i64) (z6d call n))),(68,gcF (fn2 Ds (Di .i64) (zfb call n))),(72,gcF (fn2 Ds (Di .i64) (zcf call n)))]
set_option maxRecDepth 20000 in
theorem z48a(n:Nat)(call:zf)(hc:SaysAll Tryd.prog call):SaysAll Tryd.prog (worldRF n call):=(z10 (z178 Da Ds Dv (z358 hc))
 (z10 (z48 Dv Dv (z355 hc))
 (z10 (z178 Da Ds Dv (z308 hc))
 (z10 (z4d (z32 Ds (z307 hc)))
 (z10 (z4d (z48 Da Ds (z357 hc)))
 (z10 (z4d (z48 Da (Di .u8) (z3b3 hc)))
 (z10 (z4d (z32 Da (z356 hc)))
 (z10 (z178 Da Ds Dv (z354 hc))
 (z10 (z4d (z48 Da Ds (z359 hc)))
 (z10 (z32 Dv (z371 hc))
 (z10 (z4d (z32 (Di .i64) (z3b1 hc)))
 (z10 (z4d (z32 Da (z35d hc)))
 (z10 (z4d (z32 Ds (z291 hc)))
 (z10 (z4d (z32 Ds (z35a hc)))
 (z10 (z4d (z32 (Di .u8) (z3b2 hc)))
 (z10 (z4d (z2e6 (z3b4 hc)))
 (z10 (z48 (Di .i64) Dv (z35e hc))
 (z10 (z4d (z48 Ds (Di .i64) (z35c hc)))
 (z10 (z4d (z48 Ds (Di .i64) (z3b0 hc)))
 (z10 (z4d (z48 Ds (Di .i64) (z35b hc)))
 (z10 (z4d (z48 Ds (Di .i64) (z309 hc)))
 (z10 (z4d (z48 Ds (Di .i64) (z2bf hc)))
 z339))))))))))))))))))))))
noncomputable def z14(n d:Nat):zf:=iterW (worldRF n) d
theorem worldR_ok(n d:Nat):SaysAll Tryd.prog (z14 n d):=z373 (z48a n) d
theorem z39f(n d:Nat)(t0:List AV)(t1:z11)(t2:AV)(h:AHeap):z14 n (d+1) 31 [.agg t0,z12 t1,t2] h=z162 (z14 n d) n t0 t1 t2 h:=
 Eq.trans (b:=fn3 Da Ds Dv (z162 (z14 n d) n) [.agg t0,z12 t1,t2] h) (by kernel_rfl) (z2e5 Da Ds Dv _ t0 t1 t2 h)
theorem z39d(n d:Nat)(t0:AV)(t1:AV)(h:AHeap):z14 n (d+1) 48 [t0,t1] h=z161 (z14 n d) n t0 t1 h:=
 Eq.trans (b:=fn2 Dv Dv (z161 (z14 n d) n) [t0,t1] h) (by kernel_rfl) (zc8 Dv Dv _ t0 t1 h)
theorem z344(n d:Nat)(t0:List AV)(t1:z11)(t2:AV)(h:AHeap):z14 n (d+1) 49 [.agg t0,z12 t1,t2] h=z12b (z14 n d) n t0 t1 t2 h:=
 Eq.trans (b:=fn3 Da Ds Dv (z12b (z14 n d) n) [.agg t0,z12 t1,t2] h) (by kernel_rfl) (z2e5 Da Ds Dv _ t0 t1 t2 h)
theorem z343(n d:Nat)(t0:z11)(h:AHeap):z14 n (d+1) 32 [z12 t0] h=gcR h (zcc (z14 n d) n t0 h):=
 Eq.trans (b:=gcR h (fn1 Ds (zcc (z14 n d) n) [z12 t0] h)) (by kernel_rfl) (congrArg (gcR h) (z91 Ds _ t0 h))
theorem z39e(n d:Nat)(t0:List AV)(t1:z11)(h:AHeap):z14 n (d+1) 15 [.agg t0,z12 t1] h=gcR h (z12c (z14 n d) n t0 t1 h):=
 Eq.trans (b:=gcR h (fn2 Da Ds (z12c (z14 n d) n) [.agg t0,z12 t1] h)) (by kernel_rfl) (congrArg (gcR h) (zc8 Da Ds _ t0 t1 h))
theorem z3f5(n d:Nat)(t0:List AV)(t1:Int)(h:AHeap):z14 n (d+1) 47 [.agg t0,.int .u8 t1] h=gcR h (z16f (z14 n d) n t0 t1 h):=
 Eq.trans (b:=gcR h (fn2 Da (Di .u8) (z16f (z14 n d) n) [.agg t0,.int .u8 t1] h)) (by kernel_rfl) (congrArg (gcR h) (zc8 Da (Di .u8) _ t0 t1 h))
theorem z27c(n d:Nat)(t0:List AV)(h:AHeap):z14 n (d+1) 50 [.agg t0] h=gcR h (zdc (z14 n d) n t0 h):=
 Eq.trans (b:=gcR h (fn1 Da (zdc (z14 n d) n) [.agg t0] h)) (by kernel_rfl) (congrArg (gcR h) (z91 Da _ t0 h))
theorem z39c(n d:Nat)(t0:List AV)(t1:z11)(t2:AV)(h:AHeap):z14 n (d+1) 34 [.agg t0,z12 t1,t2] h=z160 (z14 n d) n t0 t1 t2 h:=
 Eq.trans (b:=fn3 Da Ds Dv (z160 (z14 n d) n) [.agg t0,z12 t1,t2] h) (by kernel_rfl) (z2e5 Da Ds Dv _ t0 t1 t2 h)
theorem z3a0(n d:Nat)(t0:List AV)(t1:z11)(h:AHeap):z14 n (d+1) 20 [.agg t0,z12 t1] h=gcR h (z12d (z14 n d) n t0 t1 h):=
 Eq.trans (b:=gcR h (fn2 Da Ds (z12d (z14 n d) n) [.agg t0,z12 t1] h)) (by kernel_rfl) (congrArg (gcR h) (zc8 Da Ds _ t0 t1 h))
theorem z3a3(n d:Nat)(t0:AV)(h:AHeap):z14 n (d+1) 16 [t0] h=z166 (z14 n d) n t0 h:=
 Eq.trans (b:=fn1 Dv (z166 (z14 n d) n) [t0] h) (by kernel_rfl) (z91 Dv _ t0 h)
theorem z3f3(n d:Nat)(t0:Int)(h:AHeap):z14 n (d+1) 29 [.int .i64 t0] h=gcR h (z198 (z14 n d) n t0 h):=
 Eq.trans (b:=gcR h (fn1 (Di .i64) (z198 (z14 n d) n) [.int .i64 t0] h)) (by kernel_rfl) (congrArg (gcR h) (z91 (Di .i64) _ t0 h))
theorem z141(n d:Nat)(t0:List AV)(h:AHeap):z14 n (d+1) 13 [.agg t0] h=gcR h (z76 (z14 n d) n t0 h):=
 Eq.trans (b:=gcR h (fn1 Da (z76 (z14 n d) n) [.agg t0] h)) (by kernel_rfl) (congrArg (gcR h) (z91 Da _ t0 h))
theorem z2aa(n d:Nat)(t0:z11)(h:AHeap):z14 n (d+1) 27 [z12 t0] h=gcR h (z80 (z14 n d) n t0 h):=
 Eq.trans (b:=gcR h (fn1 Ds (z80 (z14 n d) n) [z12 t0] h)) (by kernel_rfl) (congrArg (gcR h) (z91 Ds _ t0 h))
theorem z3a1(n d:Nat)(t0:z11)(h:AHeap):z14 n (d+1) 28 [z12 t0] h=gcR h (z163 (z14 n d) n t0 h):=
 Eq.trans (b:=gcR h (fn1 Ds (z163 (z14 n d) n) [z12 t0] h)) (by kernel_rfl) (congrArg (gcR h) (z91 Ds _ t0 h))
theorem z3f4(n d:Nat)(t0:Int)(h:AHeap):z14 n (d+1) 43 [.int .u8 t0] h=gcR h (z16e (z14 n d) n t0 h):=
 Eq.trans (b:=gcR h (fn1 (Di .u8) (z16e (z14 n d) n) [.int .u8 t0] h)) (by kernel_rfl) (congrArg (gcR h) (z91 (Di .u8) _ t0 h))
theorem z3f6(n d:Nat)(h:AHeap):z14 n (d+1) 45 [] h=gcR h (z170 (z14 n d) n h):=
 Eq.trans (b:=gcR h (fn0 (z170 (z14 n d) n) [] h)) (by kernel_rfl) (congrArg (gcR h) (fn0_eq _ h))
theorem z1d0(n d:Nat)(t0:Int)(t1:AV)(h:AHeap):z14 n (d+1) 44 [.int .i64 t0,t1] h=zff (z14 n d) n t0 t1 h:=
 Eq.trans (b:=fn2 (Di .i64) Dv (zff (z14 n d) n) [.int .i64 t0,t1] h) (by kernel_rfl) (zc8 (Di .i64) Dv _ t0 t1 h)
theorem z3a2(n d:Nat)(t0:z11)(t1:Int)(h:AHeap):z14 n (d+1) 30 [z12 t0,.int .i64 t1] h=gcR h (z164 (z14 n d) n t0 t1 h):=
 Eq.trans (b:=gcR h (fn2 Ds (Di .i64) (z164 (z14 n d) n) [z12 t0,.int .i64 t1] h)) (by kernel_rfl) (congrArg (gcR h) (zc8 Ds (Di .i64) _ t0 t1 h))
theorem z3f2(n d:Nat)(t0:z11)(t1:Int)(h:AHeap):z14 n (d+1) 46 [z12 t0,.int .i64 t1] h=gcR h (z197 (z14 n d) n t0 t1 h):=
 Eq.trans (b:=gcR h (fn2 Ds (Di .i64) (z197 (z14 n d) n) [z12 t0,.int .i64 t1] h)) (by kernel_rfl) (congrArg (gcR h) (zc8 Ds (Di .i64) _ t0 t1 h))
theorem z84(n d:Nat)(t0:z11)(t1:Int)(h:AHeap):z14 n (d+1) 58 [z12 t0,.int .i64 t1] h=gcR h (z6d (z14 n d) n t0 t1 h):=
 Eq.trans (b:=gcR h (fn2 Ds (Di .i64) (z6d (z14 n d) n) [z12 t0,.int .i64 t1] h)) (by kernel_rfl) (congrArg (gcR h) (zc8 Ds (Di .i64) _ t0 t1 h))
theorem z345(n d:Nat)(t0:z11)(t1:Int)(h:AHeap):z14 n (d+1) 68 [z12 t0,.int .i64 t1] h=gcR h (zfb (z14 n d) n t0 t1 h):=
 Eq.trans (b:=gcR h (fn2 Ds (Di .i64) (zfb (z14 n d) n) [z12 t0,.int .i64 t1] h)) (by kernel_rfl) (congrArg (gcR h) (zc8 Ds (Di .i64) _ t0 t1 h))
theorem z2ff(n d:Nat)(t0:z11)(t1:Int)(h:AHeap):z14 n (d+1) 72 [z12 t0,.int .i64 t1] h=gcR h (zcf (z14 n d) n t0 t1 h):=
 Eq.trans (b:=gcR h (fn2 Ds (Di .i64) (zcf (z14 n d) n) [z12 t0,.int .i64 t1] h)) (by kernel_rfl) (congrArg (gcR h) (zc8 Ds (Di .i64) _ t0 t1 h))
set_option maxRecDepth 100000 in
theorem z224(m:Nat)(hm:m≤1000)(h:AHeap):zd3 Tryd.prog h 50 (some (.int .i64 (m:Int))) (some (.int .i64 (m:Int)))=ze6 h TBo (bl m (fun _=>false)) m 1:=by
 have e:zd3 Tryd.prog h 50 (some (.int .i64 (m:Int))) (some (.int .i64 (m:Int)))=(if Nat.ble m m=true∧z15f Tryd.prog TBo m=true then ze6 h TBo (List.replicate m [AV.bool false]).flatten m 1 else none):=by kernel_rfl
 rw[e,if_pos ⟨by simp,z22c (B:=1) (by kernel_rfl) (by omega) (by omega)⟩,List.flatten_replicate_singleton,bl_none]
def Tr(h:AHeap)(v:AV)(m:Nat)(f:Nat→Bool):Prop:=∃b,v=.sl b 0 m 1∧RowH h b TBo (bl m f)∧b<h.next
section
variable {h h':AHeap}{v w:AV}{m n d:Nat}{f g:Nat→Bool}{Q:ARes→AHeap→Prop}
theorem Tr.keep(k:Tr h v m f)(t:Tch [] h h'):Tr h' v m f:=by
 obtain⟨b,e,k1,k2⟩:=k;exact⟨b,e,k1.tch t k2 (by simp),Nat.lt_of_lt_of_le k2 t.1⟩
theorem bl_lt{f g:Nat→Bool}{m:Nat}(h:∀j,j<m→f j=g j):bl m f=bl m g:=by
 refine List.ext_getElem? fun j=>?_
 by_cases hj:j<m
 ·rw[z3e4 hj,z3e4 hj,h j hj]
 ·rw[List.getElem?_eq_none (by rw[z1f0];omega),List.getElem?_eq_none (by rw[z1f0];omega)]
theorem Tr.congr(k:Tr h v m f)(e:∀j,j<m→f j=g j):Tr h v m g:=by
 obtain⟨b,e1,k1,k2⟩:=k;exact⟨b,e1,by rw[←bl_lt e];exact k1,k2⟩
theorem Tr.idx(k:Tr h v m f){i:Nat}(hi:i<m):∃p,ze8 1 v (i:Int)=some p∧z9 h p=some (.bool (f i)):=by
 obtain⟨b,rfl,k1,_⟩:=k;exact⟨_,z45f hi,y10 k1 (z3e4 hi f)⟩
theorem Tr.len(k:Tr h v m f):z249 v=some (m:Int):=by
 obtain⟨b,rfl,_,_⟩:=k;rfl
theorem quo8_64{c:Nat}(h:c<256):z44a .u8 (c:Int) 64=some ((c/64:Nat):Int):=by
 unfold z44a;rw[if_neg (by decide),Int.tdiv_eq_ediv_of_nonneg (by omega),wrap_u8 (by omega) (by omega)]
 congr 1
theorem rem8_64{c:Nat}:z448 .u8 (c:Int) 64=some ((c%64:Nat):Int):=by
 unfold z448;rw[if_neg (by decide),Int.tmod_eq_emod_of_nonneg (by omega)]
 congr 1
theorem has_w{ws:List Nat}(hw:WordsOk ws){c:Nat}(hc:c<256):z14 n (d+1) 47 [.agg (z1c ws),.int .u8 (c:Int)] h=some (.ret (.bool (inW ws c)),h):=by
 apply Wp.eq;rw[z3f5];refine Wp.gc ?_
 suffices hK:Wp (z16f (z14 n d) n (z1c ws) (c:Int) h) fun r h'=>r=.ret (.bool (inW ws c))∧Tch [] h h' from hK.mono fun r h' ⟨e,t⟩=>⟨t.above,by rw[e];rfl,e,rfl⟩
 unfold z16f;have Mx:=Mem.nil [] h;have hi4:c/64<4:=by omega
 refine y16 Mx (z193 ws) fun h1 M1=>?_;have q1:=quo8_64 hc;have q2:=zc7 (b:=h.next) (o:=0) hi4;have q3:=rem8_64 (c:=c);have g1:=z148 (pre:=[]) (post:=[]) (w:=ws) (i:=c/64) (by rw[hw.len];exact hi4);rw[List.append_nil,List.nil_append,List.length_nil] at g1;have q4:z9 h1 (.ptr h.next (0+c/64))=some (.int .u64 ((ws.getD (c/64) 0:Nat):Int)):=y10 M1.at0.1 g1;have e1:=z34e (x:=ws.getD (c/64) 0) (Nat.mod_lt c (show 0<64 by decide))
 have e2:z393 .u64 ((ws.getD (c/64) 0>>>(c%64):Nat):Int) 1=(((inW ws c).toNat:Nat):Int):=by
  rw[show (1:Int)=((1:Nat):Int) from rfl,zfa (z2b8 (hw.get _)) (by decide),z38e];rfl
 repeat(with_reducible first|refine Wp.lett ?_|(apply Wp.obind;first|exact q1|exact q2|exact q3|exact q4|exact e1|exact z5 _ _))
 rw[e2];refine Wp.ret ⟨?_,M1.tch⟩
 cases inW ws c<;>rfl
theorem z3e3{k9:AHeap→R}{b9:Nat}(kv:Tr h v m f)(kw:Tr h w m g)(hm:m<1000)(hk:∀H,Abs.Mem [] h H [(b9,TBo,bl m fun j=>f j||g j)]→Wp (k9 H) Q):∀(q fu i:Nat) (H:AHeap),q<fu→i+q=m→Abs.Mem [] h H [(b9,TBo,bl m fun j=>if j<i then f j||g j else false)]→Wp (z10d v w (.sl b9 0 m 1) k9 fu (i:Int) H) Q
 |_,0,_,_,hf,_,_=>by omega
 |0,fu+1,i,H,hf,hq,M=>by
  rw[z16c];unfold zeb;have e0:=kv.len
  repeat(first|(with_reducible first|refine Wp.lett ?_|(apply Wp.obind;exact e0))|((with_reducible refine y7 ?_ ?_;apply decide_eq_false);omega))
  refine hk H ?_;rw[bl_lt (g:=fun j=>f j||g j) (fun j hj=>by rw[if_pos (by omega)])] at M;exact M
 |q+1,fu+1,i,H,hf,hq,M=>by
  have el:(i:Int)+1=((i+1:Nat):Int):=by omega
  have e0:=kv.len;obtain⟨p1,i1,c1⟩:=(kv.keep M.tch).idx (i:=i) (by omega);obtain⟨p2,i2,c2⟩:=(kw.keep M.tch).idx (i:=i) (by omega);have i3:=z45f (b:=b9) (m:=m) (i:=i) (by omega);have fin:=fun H M=>z3e3 kv kw hm hk q fu (i+1) H (by omega) (by omega) M
  have step:∀{c:Bool} {h2:AHeap},(f i||g i)=c→Abs.Mem [] h h2 [(b9,TBo,(bl m fun j=>if j<i then f j||g j else false).set i (.bool c))]→Abs.Mem [] h h2 [(b9,TBo,bl m fun j=>if j<i+1 then f j||g j else false)]:=by
   intro c h2 hc M2
   rw[bl_set (g:=fun j=>if j<i+1 then f j||g j else false) (by rw[if_pos (by omega),hc]) (fun j hj=>by
    by_cases h1:j<i
    ·rw[if_pos h1,if_pos (by omega)]
    ·rw[if_neg h1,if_neg (by omega)])] at M2
   exact M2
  rw[z16c];unfold zeb;cases hfi:f i with
  |true=>
   rw[hfi] at c1
   repeat(first|(with_reducible first|refine y5 (fun _ _=>?_)|refine Wp.lett ?_|(apply Wp.obind;first|exact e0|exact i1|exact c1|exact i3|exact z6 _))|((with_reducible refine y8 ?_ ?_);first|(with_reducible rfl)|((with_reducible apply decide_eq_true);omega))|(with_reducible refine yd (by assumption) ?_))
   refine y37 M (by rw[z1f0];omega) rfl fun h2 M2=>?_
   repeat(((with_reducible refine yf ?_ ?_ ?_);omega;omega))
   rw[el];exact fin h2 (step (by rw[hfi];rfl) M2)
  |false=>
   rw[hfi] at c1
   repeat(first|(with_reducible first|refine y5 (fun _ _=>?_)|refine Wp.lett ?_|(apply Wp.obind;first|exact e0|exact i1|exact c1|exact i2|exact c2|exact i3|exact z6 _))|((with_reducible refine y8 ?_ ?_;apply decide_eq_true);omega)|(with_reducible first|(refine y7 ?_ ?_;rfl)|refine yd (by assumption) ?_))
   refine y37 M (by rw[z1f0];omega) rfl fun h2 M2=>?_
   repeat(((with_reducible refine yf ?_ ?_ ?_);omega;omega))
   rw[el];exact fin h2 (step (by rw[hfi];rfl) M2)
theorem both_r(kv:Tr h v m f)(kw:Tr h w m g)(hm:m<1000)(hn:1000<n)(hx:z7a TBo h.ex=false):∃v' h',z14 n (d+1) 48 [v,w] h=some (.ret v',h')∧Tr h' v' m (fun j=>f j||g j)∧Tch [] h h':=by
 suffices hK:Wp (z14 n (d+1) 48 [v,w] h) fun r h'=>∃v',r=.ret v'∧Tr h' v' m (fun j=>f j||g j)∧Tch [] h h' by
  obtain⟨_,h',e,v',rfl,k⟩:=hK;exact⟨v',h',e,k⟩
 rw[z39d];unfold z161;have e0:=kv.len;have M:=Mem.nil [] h;refine Wp.obind e0 ?_;refine y2d M (z224 m (by omega) h) (bl_one _ _) hx fun h4 M4=>?_
 ((with_reducible refine y12 (fun _ _=>?_)))
 rename_i k9 ek9;refine z3e3 kv kw hm (fun H MH=>?_) m n 0 h4 (by omega) (Nat.zero_add _) (by rw[bl_ext (f:=fun j=>if j<0 then f j||g j else false) (g:=fun _=>false) (fun j=>if_neg (Nat.not_lt_zero j))];exact M4);rw[ek9];exact Wp.ret ⟨_,rfl,⟨_,rfl,MH.at0.1,MH.at0.2.1⟩,MH.tch⟩
theorem start_r{s:z11}(hs:s.length<999)(hx:z7a TBo h.ex=false):∃v' h',z14 n (d+1) 32 [z12 s] h=some (.ret v',h')∧Tr h' v' (s.length+1) (fun j=>decide (j=0))∧Tch [] h h':=by
 suffices hK:Wp (gcR h (zcc (z14 n d) n s h)) fun r h'=>∃b,r=.ret (.sl b 0 (s.length+1) 1)∧Abs.Mem [] h h' [(b,TBo,bl (s.length+1) fun j=>decide (j=0))] by
  obtain⟨_,h',e,b,rfl,k⟩:=hK;rw[←z343] at e;exact⟨_,h',e,⟨b,rfl,k.at0.1,k.at0.2.1⟩,k.tch⟩
 suffices hK:Wp (zcc (z14 n d) n s h) fun r h'=>∃b,r=.ret (.sl b 0 (s.length+1) 1)∧Abs.Mem [] h h' [(b,TBo,bl (s.length+1) fun j=>decide (j=0))] by
  obtain⟨_,h',e,b,rfl,k⟩:=hK;refine y4a ⟨_,h',e,⟨b,rfl,k⟩,fun _ hl=>?_⟩;have h2:=k.at0.2.2.resolve_left (by simp);have h1:AV.lo h.next (.sl b 0 (s.length+1) 1)=true:=hl;have h3:b<h.next:=by simpa [AV.lo] using h1
  omega
 unfold zcc;have ll:=z1b s;have el:z7b s+1=((s.length+1:Nat):Int):=by omega
 have M:=Mem.nil [] h
 (((with_reducible refine yf ?_ ?_ ?_);omega;omega))
 rw[el];refine y2d M (z224 _ (by omega) h) (bl_one _ _) hx fun h4 M4=>?_;have i1:ze8 1 (.sl h.next 0 (s.length+1) 1) 0=some (.ptr h.next 0):=z45f (i:=0) (by omega);refine Wp.obind i1 ?_;refine y37 M4 (by rw[z1f0];omega) rfl fun h6 M6=>?_;rw[bl_set (i:=0) (b:=true) (g:=fun j=>decide (j=0)) rfl (fun j hj=>by rw[decide_eq_false hj])] at M6;exact Wp.ret ⟨_,rfl,M6⟩
end
def seg(s:z11)(i j:Nat):List Nat:=((s.drop i).take (j - i)).map UInt8.toNat
noncomputable def z6a(P:List Nat→Prop)(s:z11)(f:Nat→Bool)(j:Nat):Bool:= @decide (∃i,i≤j∧f i=true∧P (seg s i j)) (Classical.propDecidable _)
section
variable {P R:List Nat→Prop}{s:z11}{f g g':Nat→Bool}{i j k:Nat}
theorem z49:z6a P s f j=true↔∃i,i≤j∧f i=true∧P (seg s i j):= @decide_eq_true_iff _ (Classical.propDecidable _)
theorem z1d3(h:i≤j)(hj:j≤s.length):(seg s i j).length=j - i:=by
 unfold seg;rw[List.length_map,List.length_take,List.length_drop];omega
theorem z135(i:Nat):seg s i i=[]:=by
 unfold seg;rw[Nat.sub_self];rfl
theorem z263(h1:i≤k)(h2:k≤j):seg s i j=seg s i k++seg s k j:=by
 unfold seg;rw[←List.map_append]
 congr 1
 have e:j - i=(k - i)+(j - k):=by omega
 rw[e,List.take_add,List.drop_drop]
 congr 3
 omega
theorem z235{a b:List Nat}(h:i≤j)(hj:j≤s.length)(e:seg s i j=a++b):∃k,i≤k∧k≤j∧seg s i k=a∧seg s k j=b:=by
 have l:=congrArg List.length e;rw[z1d3 h hj,List.length_append] at l;refine⟨i+a.length,by omega,by omega,?_⟩;rw[z263 (k:=i+a.length) (by omega) (by omega)] at e;exact List.append_inj e (by rw[z1d3 (by omega) (by omega)];omega)
theorem ends_cat(hj:j≤s.length):z6a (Cat P R) s f j=z6a R s (z6a P s f) j:=by
 refine z92 ?_;rw[z49,z49];constructor
 ·rintro ⟨i, hi, hf, a, b, e, ha, hb⟩
  obtain⟨k,h1,h2,rfl,rfl⟩:=z235 hi hj e;exact⟨k,h2,z49.2 ⟨i,h1,hf,ha⟩,hb⟩
 ·rintro ⟨k, hk, he, hb⟩
  obtain⟨i,hi,hf,ha⟩:=z49.1 he;exact⟨i,by omega,hf,_,_,z263 hi hk,ha,hb⟩
theorem z380(hj:j≤s.length):z6a (fun u=>u=[]) s f j=f j:=by
 refine z92 ?_;rw[z49];constructor
 ·rintro ⟨i, hi, hf, e⟩
  have:=congrArg List.length e;rw[z1d3 hi hj,List.length_nil] at this;rw[show j=i by omega];exact hf
 ·exact fun h=>⟨j,Nat.le_refl _,h,z135 j⟩
theorem ends_or:z6a (fun u=>P u∨R u) s f j=(z6a P s f j||z6a R s f j):=by
 refine z92 ?_;rw[Bool.or_eq_true,z49,z49,z49];constructor
 ·rintro ⟨i, hi, hf, h | h⟩
  ·exact .inl ⟨i,hi,hf,h⟩
  ·exact .inr ⟨i,hi,hf,h⟩
 ·rintro (⟨i, hi, hf, h⟩ | ⟨i, hi, hf, h⟩)
  ·exact⟨i,hi,hf,.inl h⟩
  ·exact⟨i,hi,hf,.inr h⟩
theorem z4b6:z6a (fun _=>False) s f j=false:=by
 cases h:z6a (fun _=>False) s f j with
 |false=>rfl
 |true=>
  obtain⟨_,_,_,h⟩:=z49.1 h;exact h.elim
theorem ends_set0{w:List Nat}:z6a (fun u=>∃c,u=[c]∧inW w c=true) s f 0=false:=by
 cases h:z6a (fun u=>∃c,u=[c]∧inW w c=true) s f 0 with
 |false=>rfl
 |true=>
  obtain⟨i,hi,_,c,e,_⟩:=z49.1 h
  obtain rfl:i=0:=by omega
  rw[z135] at e
  cases e
theorem ends_set{w:List Nat}(hj:j<s.length):z6a (fun u=>∃c,u=[c]∧inW w c=true) s f (j+1)=(f j&&inW w (s[j]).toNat):=by
 have e1:seg s j (j+1)=[(s[j]).toNat]:=by
  unfold seg;rw[List.drop_eq_getElem_cons hj,show j+1 - j=1 by omega];rfl
 refine z92 ?_;rw[z49,Bool.and_eq_true];constructor
 ·rintro ⟨i, hi, hf, c, e, hc⟩
  have:=congrArg List.length e;rw[z1d3 hi (by omega)] at this
  obtain rfl:i=j:=by
   have:j+1 - i=1:=this;omega
  rw[e1] at e
  cases e
  exact⟨hf,hc⟩
 ·rintro ⟨hf, hc⟩
  exact⟨j,by omega,hf,_,e1,hc⟩
def z3ef(P:List Nat→Prop)(u:List Nat):Prop:=u=[]∨Plus P u
theorem z2b5(h:z6a (z3ef P) s f i=true)(hi:i≤j)(hp:P (seg s i j)):z6a (z3ef P) s f j=true:=by
 obtain⟨i0,h0,hf,h⟩:=z49.1 h;refine z49.2 ⟨i0,by omega,hf,.inr ?_⟩;rw[z263 h0 hi]
 rcases h with h|h
 ·rw [h]
  exact .one hp
 ·exact h.snoc hp
theorem z427(hg:∀i j,i≤j→j≤s.length→g i=true→P (seg s i j)→g j=true){u:List Nat}(h:Plus P u):∀i j,i≤j→j≤s.length→seg s i j=u→g i=true→g j=true:=by
 induction h with
 |one h=>exact fun i j hi hj e hgi=>hg i j hi hj hgi (by rw[e];exact h)
 |more h _ ih=>
  intro i j hi hj e hgi;obtain⟨k,h1,h2,e1,e2⟩:=z235 hi hj e;exact ih k j h2 hj e2 (hg i k h1 (by omega) hgi (by rw[e1];exact h))
theorem z426(hg:∀i j,i≤j→j≤s.length→g i=true→P (seg s i j)→g j=true)(hf:∀i,i≤s.length→f i=true→g i=true)(hj:j≤s.length)(h:z6a (z3ef P) s f j=true):g j=true:=by
 obtain⟨i,hi,hfi,h⟩:=z49.1 h
 rcases h with h|h
 ·have := congrArg List.length h
  rw[z1d3 hi hj,List.length_nil] at this;rw[show j=i by omega];exact hf i (by omega) hfi
 ·exact z427 hg h i j hi hj rfl (hf i (by omega) hfi)
theorem ends_plus:z6a (Plus P) s f j=z6a (z3ef P) s (z6a P s f) j∨s.length<j:=by
 by_cases hj:j≤s.length
 ·refine .inl (z92 ?_)
  rw[z49,z49];constructor
  ·rintro ⟨i, hi, hf, h⟩
   generalize hu:seg s i j=u at h
   cases h with
   |one h=>exact⟨j,Nat.le_refl _,z49.2 ⟨i,hi,hf,by rw[hu];exact h⟩,.inl (z135 j)⟩
   |more h m=>
    obtain⟨k,h1,h2,e1,e2⟩:=z235 hi hj hu;exact⟨k,h2,z49.2 ⟨i,h1,hf,by rw[e1];exact h⟩,.inr (by rw[e2];exact m)⟩
  ·rintro ⟨k, hk, he, h⟩
   obtain⟨i,hi,hf,hp⟩:=z49.1 he;refine⟨i,by omega,hf,?_⟩;rw[z263 hi hk]
   rcases h with h|h
   ·rw [h, List.append_nil]
    exact .one hp
   ·exact .more hp h
 ·exact .inr (by omega)
def cntF(g:Nat→Bool):Nat→Nat
 |0=>0
 |m+1=>cntF g m+(if g m=true then 0 else 1)
theorem cntF_le(h:∀j,g j=true→g' j=true):∀m,cntF g' m≤cntF g m
 |0=>Nat.le_refl _
 |m+1=>by
  have:=cntF_le h m;rw[cntF,cntF]
  by_cases h1:g m=true
  ·rw [if_pos h1, if_pos (h m h1)]
   exact this
  ·rw [if_neg h1]
   split<;>omega
theorem cntF_lt(h:∀j,g j=true→g' j=true):∀m,(∃j,j<m∧g j=false∧g' j=true)→cntF g' m<cntF g m
 |0,⟨_,hj,_⟩=>by omega
 |m+1,⟨j,hj,h1,h2⟩=>by
  rw[cntF,cntF]
  by_cases hm:j=m
  ·subst hm
   have:=cntF_le h j;rw[if_pos h2,if_neg (by rw[h1];decide)];omega
  ·have := cntF_lt h m ⟨j, by omega, h1, h2⟩
   by_cases h3:g m=true
   ·rw [if_pos h3, if_pos (h m h3)]
    omega
   ·rw [if_neg h3]
    split<;>omega
theorem z472(g:Nat→Bool):∀m,cntF g m≤m
 |0=>Nat.le_refl _
 |m+1=>by
  have:=z472 g m;rw[cntF]
  split<;>omega
end
def EndsW(n D:Nat)(s:z11)(h0:AHeap)(c:List AV)(P:List Nat→Prop):Prop:=∀(f:Nat→Bool) (v:AV) (h:AHeap),Tch [] h0 h→Tr h v (s.length+1) f→
 ∃v' h',z14 n D 31 [.agg c,z12 s,v] h=some (.ret v',h')∧Tr h' v' (s.length+1) (z6a P s f)∧Tch [] h h'
section
variable {n d p:Nat}{h h0:AHeap}{s:z11}{c:List AV}{P:List Nat→Prop}{f:Nat→Bool}{Q:ARes→AHeap→Prop}
theorem z386{k19:Bool→AHeap→R}{v r:AV}{m:Nat}{g g':Nat→Bool}{H:AHeap}(kr:Tr H r m g')(kv:Tr H v m g)(hm:m<1000)(hk:∀b:Bool,(b=false→∀j,j<m→g' j=g j)→(b=true→∃j,j<m∧g' j≠g j)→Wp (k19 b H) Q):
  ∀(q fu i:Nat) (acc:Bool),q<fu→i+q=m→(acc=false→∀j,j<i→g' j=g j)→(acc=true→∃j,j<m∧g' j≠g j)→Wp (zec v r k19 fu acc (i:Int) H) Q
 |_,0,_,_,hf,_,_,_=>by omega
 |0,fu+1,i,acc,hf,hq,h1,h2=>by
  rw[z14c];unfold zcd;have e0:=kr.len
  repeat(first|(with_reducible first|refine Wp.lett ?_|(apply Wp.obind;exact e0))|((with_reducible refine y7 ?_ ?_;apply decide_eq_false);omega))
  exact hk acc (fun e j hj=>h1 e j (by omega)) h2
 |q+1,fu+1,i,acc,hf,hq,h1,h2=>by
  have el:(i:Int)+1=((i+1:Nat):Int):=by omega
  have e0:=kr.len;obtain⟨p1,i1,c1⟩:=kr.idx (i:=i) (by omega);obtain⟨p2,i2,c2⟩:=kv.idx (i:=i) (by omega);rw[z14c];unfold zcd
  cases acc with
  |true=>
   repeat(first|(with_reducible refine y5 (fun _ _=>?_))|((with_reducible refine yf ?_ ?_ ?_);omega;omega)|(with_reducible first|refine Wp.lett ?_|(apply Wp.obind;exact e0))|((with_reducible refine y8 ?_ ?_);first|(with_reducible rfl)|((with_reducible apply decide_eq_true);omega))|(with_reducible refine yd (by assumption) ?_))
   rw[el];exact z386 kr kv hm hk q fu (i+1) true (by omega) (by omega) (fun e=>by cases e) h2
  |false=>
   repeat(first|(with_reducible refine y5 (fun _ _=>?_))|((with_reducible refine yf ?_ ?_ ?_);omega;omega)|(with_reducible first|refine Wp.lett ?_|(apply Wp.obind;first|exact e0|exact i1|exact c1|exact i2|exact c2|exact z6 _))|((with_reducible refine y8 ?_ ?_;apply decide_eq_true);omega)|(with_reducible first|(refine y7 ?_ ?_;rfl)|refine yd (by assumption) ?_))
   rw[el];refine z386 kr kv hm hk q fu (i+1) _ (by omega) (by omega) (fun e j hj=>?_) (fun e=>⟨i,by omega,fun he=>?_⟩)
   ·by_cases hji : j = i
    ·subst hji
     revert e
     cases g' j<;>cases g j<;>simp
    ·exact h1 rfl j (by omega)
   ·rw [he] at e
    revert e
    cases g i<;>simp
theorem z340(hE:EndsW n (d+1) s h0 c P)(h6:c.length=6)(kp:RowH h p z17 c)(hp:p<h.next)(ht:Tch [] h0 h)(hl:s.length<900)(hn:1000<n)(hx:z7a TBo h0.ex=false):
  ∀(fu:Nat) (g:Nat→Bool) (v:AV) (H:AHeap),cntF g (s.length+1)<fu→Tch [] h H→Tr H v (s.length+1) g→(∀j,j≤s.length→f j=true→g j=true)→(∀j,j≤s.length→g j=true→z6a (z3ef P) s f j=true)→
   Wp (zed (z14 n (d+1)) n s (.ptr p 0) fu v H) fun r h'=>∃v',r=.ret v'∧Tr h' v' (s.length+1) (z6a (z3ef P) s f)∧Tch [] h h'
 |0,_,_,_,hf,_,_,_,_=>by omega
 |fu+1,g,v,H,hf,t,kv,hfg,hgs=>by
  rw[z1bd];unfold z10e;have e0:z15 H 6 (.ptr p 0)=some c:=(kp.tch t hp (by simp)).ldAll h6;refine Wp.obind e0 ?_;obtain⟨v1,h1,e1,k1,t1⟩:=hE g v H (ht.trans t) kv;refine Wp.callN e1 ?_;have tA:=(ht.trans t).trans t1;obtain⟨v2,h2,e2,k2,t2⟩:=both_r (n:=n) (d:=d) (kv.keep t1) k1 (by omega) hn (by rw[tA.2.1];exact hx);refine Wp.callN e2 ?_;have kv2:=(kv.keep t1).keep t2;have tB:=t.trans (t1.trans t2)
  ((with_reducible refine y5 (fun _ _=>?_)))
  rename_i k19 ek19;refine z386 k2 kv2 (by omega) (fun b hb1 hb2=>?_) (s.length+1) n 0 false (by omega) (Nat.zero_add _) (fun _ j hj=>by omega) (fun e=>by cases e);have up:∀j,g j=true→(g j||z6a P s g j)=true:=fun j hj=>by rw[hj];rfl
  have inv2:∀j,j≤s.length→(g j||z6a P s g j)=true→z6a (z3ef P) s f j=true:=by
   intro j hj hh;rw[Bool.or_eq_true] at hh
   rcases hh with hh|hh
   ·exact hgs j hj hh
   ·obtain ⟨i, hi, hgi, hP⟩ := z49.1 hh
    exact z2b5 (hgs i (by omega) hgi) hi hP
  rw[ek19]
  cases b with
  |false=>
   repeat(with_reducible first|refine Wp.lett ?_|(refine y8 ?_ ?_;exact Bool.not_false))
   have eq:=hb1 rfl;refine Wp.ret ⟨v2,rfl,k2.congr fun j hj=>?_,tB⟩;refine z92 ⟨inv2 j (by omega),fun hs=>up j ?_⟩;refine z426 (g:=g) (fun i j hi hj hgi hP=>?_) hfg (by omega) hs;have:=eq j (by omega);rw[←this,Bool.or_eq_true];exact .inr (z49.2 ⟨i,hi,hgi,hP⟩)
  |true=>
   repeat(with_reducible first|refine Wp.lett ?_|(refine y7 ?_ ?_;exact Bool.not_true))
   obtain⟨j,hj,hne⟩:=hb2 rfl;refine z340 hE h6 kp hp ht hl hn hx fu _ v2 h2 ?_ tB k2 (fun j hj hfj=>up j (hfg j hj hfj)) inv2;have:=cntF_lt (g:=g) (g':=fun j=>g j||z6a P s g j) up (s.length+1) ⟨j,hj,?_⟩
   ·omega
   ·have hne' : (g j || z6a P s g j) ≠ g j := hne
    show g j=false∧(g j||z6a P s g j)=true
    revert hne'
    cases g j<;>cases z6a P s g j<;>simp
theorem z435{v:AV}(hE:EndsW n (d+1) s h0 c P)(h6:c.length=6)(o6:c.all AV.one=true)(ht:Tch [] h0 h)(hl:s.length<900)(hn:1000<n)(hx:z7a TBo h0.ex=false)(kv:Tr h v (s.length+1) f):
  ∃v' h',z14 n (d+2) 49 [.agg c,z12 s,v] h=some (.ret v',h')∧Tr h' v' (s.length+1) (z6a (z3ef P) s f)∧Tch [] h h':=by
 suffices hK:Wp (z14 n (d+2) 49 [.agg c,z12 s,v] h) fun r h'=>∃v',r=.ret v'∧Tr h' v' (s.length+1) (z6a (z3ef P) s f)∧Tch [] h h' by
  obtain⟨_,h',e,v',rfl,k⟩:=hK;exact⟨v',h',e,k⟩
 rw[z344];unfold z12b;have M:=Mem.nil [] h;refine y16 M o6 fun h1 M1=>?_;have hb:=z472 f (s.length+1);refine(z340 (f:=f) (h:=h1) hE h6 M1.at0.1 M1.at0.2.1 (ht.trans M1.tch) hl hn hx n f v h1 (by omega) (Tch.refl _ _) (kv.keep M1.tch) (fun _ _ h=>h) (fun j _ h=>z49.2 ⟨j,Nat.le_refl _,h,.inl (z135 j)⟩)).mono fun r h' ⟨v',e,k,t⟩=>⟨v',e,k,M1.tch.trans t⟩
end
inductive KidE (n D:Nat) (s:z11) (h0:AHeap):List (List AV)→List Nd→Prop
 |nil:KidE n D s h0 [] []
 |cons {c:List AV} {t:Nd} {l:List (List AV)} {ks:List Nd} (e:EndsW n D s h0 c (z1a5 t)) (k:KidE n D s h0 l ks):KidE n D s h0 (c::l) (t::ks)
theorem EndsW.keep{n D:Nat}{s:z11}{h0 h1:AHeap}{c:List AV}{P:List Nat→Prop}(k:EndsW n D s h0 c P)(t:Tch [] h0 h1):EndsW n D s h1 c P:=fun f v h a b=>k f v h (t.trans a) b
theorem KidE.keep{n D:Nat}{s:z11}{h0 h1:AHeap}{l:List (List AV)}{ks:List Nd}(k:KidE n D s h0 l ks)(t:Tch [] h0 h1):KidE n D s h1 l ks:=by
 induction k with
 |nil=>exact .nil
 |cons e _ ih=>exact .cons (e.keep t) ih
section
variable {n d p b9 op:Nat}{h h0:AHeap}{s:z11}{w:List Nat}{kv:AV}{K:List (List AV)}{T:List z9e}{f:Nat→Bool}{Q:ARes→AHeap→Prop}{v:AV}
theorem z43f{k21:AHeap→R}(hw:WordsOk w)(kn:RowH h p z17 (z25 op w kv))(hp:p<h.next)(kf:Tr h v (s.length+1) f)(hl:s.length<900)(hk:∀H,Abs.Mem [] h H [(b9,TBo,bl (s.length+1) (z6a (fun u=>∃c,u=[c]∧inW w c=true) s f))]→Wp (k21 H) Q):
  ∀(m fu i:Nat) (H:AHeap),m<fu→i+m=s.length→Abs.Mem [] h H [(b9,TBo,bl (s.length+1) fun j=>if j≤i then z6a (fun u=>∃c,u=[c]∧inW w c=true) s f j else false)]→
   Wp (z113 (z14 n (d+1)) s v (.ptr p 0) (.sl b9 0 (s.length+1) 1) k21 fu (i:Int) H) Q
 |_,0,_,_,hf,_,_=>by omega
 |0,fu+1,i,H,hf,hm,M=>by
  have ll:=z1b s;rw[z16d];unfold zee
  repeat(first|(with_reducible refine Wp.lett ?_)|((with_reducible refine y7 ?_ ?_;apply decide_eq_false);omega))
  refine hk H ?_;rw[bl_lt (g:=z6a (fun u=>∃c,u=[c]∧inW w c=true) s f) (fun j hj=>by rw[if_pos (by omega)])] at M;exact M
 |m+1,fu+1,i,H,hf,hm,M=>by
  have ll:=z1b s;have hi:i<s.length:=by omega
  have el:(i:Int)+1=((i+1:Nat):Int):=by omega
  obtain⟨p1,i1,c1⟩:=(kf.keep M.tch).idx (i:=i) (by omega);have i3:=z45f (b:=b9) (m:=s.length+1) (i:=i+1) (by omega);have hx:=z30 hi;have kn1:=kn.tch M.tch hp (by simp)
  have e4:z15 H 4 (.ptr p (0+1))=some (z1c w):=by
   have:=kn1.ld (o:=0+1) (n:=4) (by show 0+1+4≤(z25 op w kv).length;simp only[z25,List.length_cons,List.length_append,z38,hw.len,List.length_nil];omega);rw[this];show some ((z1c w++[kv]).take 4)=_;rw[List.take_left' (by rw[z38,hw.len])]
  have eh:=has_w (n:=n) (d:=d) (h:=H) hw (z38a hi);have fin:=fun H M=>z43f hw kn hp kf hl hk m fu (i+1) H (by omega) (by omega) M;have es:=ends_set (f:=f) (w:=w) hi
  have step:∀{c:Bool} {h2:AHeap},(f i&&inW w (s[i]).toNat)=c→Abs.Mem [] h h2 [(b9,TBo,(bl (s.length+1) fun j=>if j≤i then z6a (fun u=>∃c,u=[c]∧inW w c=true) s f j else false).set (i+1) (.bool c))]→Abs.Mem [] h h2 [(b9,TBo,bl (s.length+1) fun j=>if j≤i+1 then z6a (fun u=>∃c,u=[c]∧inW w c=true) s f j else false)]:=by
   intro c h2 hc M2
   rw[bl_set (g:=fun j=>if j≤i+1 then z6a (fun u=>∃c,u=[c]∧inW w c=true) s f j else false) (by rw[if_pos (by omega),es,hc]) (fun j hj=>by
    by_cases h1:j≤i
    ·rw[if_pos h1,if_pos (by omega)]
    ·rw[if_neg h1,if_neg (by omega)])] at M2
   exact M2
  rw[z16d];unfold zee;rw[←el] at i3;cases hfi:f i with
  |true=>
   rw[hfi] at c1
   repeat(first|(with_reducible refine y12 (fun _ _=>?_))|((with_reducible refine yf ?_ ?_ ?_);omega;omega)|(with_reducible first|refine Wp.lett ?_|(apply Wp.obind;first|exact i1|exact c1|exact e4|exact hx|exact i3|exact z6 _|exact ze _ _ _))|((with_reducible refine y8 ?_ ?_);first|(with_reducible rfl)|((with_reducible apply decide_eq_true);omega))|(with_reducible apply Wp.callN;exact eh))
   refine y37 M (by rw[z1f0];omega) rfl fun h2 M2=>?_
   repeat(first|((with_reducible refine yf ?_ ?_ ?_);omega;omega)|(with_reducible refine y21 (by assumption) ?_))
   rw[el];exact fin h2 (step (by rw[hfi];rfl) M2)
  |false=>
   rw[hfi] at c1
   repeat(first|(with_reducible refine y12 (fun _ _=>?_))|((with_reducible refine yf ?_ ?_ ?_);omega;omega)|(with_reducible first|refine Wp.lett ?_|(apply Wp.obind;first|exact i1|exact c1|exact i3|exact z6 _))|((with_reducible refine y8 ?_ ?_;apply decide_eq_true);omega)|(with_reducible refine y7 ?_ ?_;rfl))
   refine y37 M (by rw[z1f0];omega) rfl fun h2 M2=>?_
   repeat(first|((with_reducible refine yf ?_ ?_ ?_);omega;omega)|(with_reducible refine y21 (by assumption) ?_))
   rw[el];exact fin h2 (step (by rw[hfi];rfl) M2)
theorem z3e0{k58:AV→AHeap→R}(g1:GrowT z17 6 K kv T)(r:RowsAt h T)(kn:RowH h p z17 (z25 op w kv))(hp:p<h.next)(hw:WordsOk w)(hK:∀c∈K,c.length=6∧c.all AV.one=true)(hKn:K.length<1000000):
  ∀(l:List (List AV)) (ks:List Nd) (i fu:Nat) (v:AV) (f:Nat→Bool) (H:AHeap),KidE n d s h l ks→K.drop i=l→K.length - i<fu→Tch [] h H→Tr H v (s.length+1) f→
   (∀v' H',Tr H' v' (s.length+1) (z6a (z342 ks) s f)→Tch [] h H'→Wp (k58 v' H') Q)→Wp (z112 (z14 n d) s (.ptr p 0) k58 fu v (i:Int) H) Q
 |_,_,_,0,_,_,_,_,_,hf,_,_,_=>by omega
 |l,ks,i,fu+1,v,f,H,kk,d1,hf,t,kv1,hk=>by
  rw[z1db];unfold z13d
  have c5:z9 H (.ptr p (0+5))=some kv:=y10 (kn.tch t hp (by simp)) (by
   obtain⟨a,b,c,d,rfl⟩:=z2a8 hw;rfl)
  have hlen:=g1.len
  cases kk with
  |nil=>
   have:=z186 d1
   repeat(first|(with_reducible first|refine Wp.lett ?_|(apply Wp.obind;first|exact c5|exact hlen|exact ze _ _ _))|((with_reducible refine y7 ?_ ?_;apply decide_eq_false);omega))
   exact hk v H (kv1.congr fun j hj=>(z380 (by omega)).symm) t
  |cons e k=>
   rename_i c t1 m ks;obtain⟨hi1,hc,d2⟩:=z149 d1;obtain⟨p1,_,x1,y1⟩:=(z13f g1 (r.keep t)).row hi1;rw[hc] at y1;obtain⟨v2,h2,e2,k2,t2⟩:=e f v H t kv1
   repeat(first|((with_reducible refine yf ?_ ?_ ?_);omega;omega)|(with_reducible first|refine Wp.lett ?_|(apply Wp.obind;first|exact c5|exact hlen|exact x1|exact y1|exact ze _ _ _))|((with_reducible refine y8 ?_ ?_;apply decide_eq_true);omega)|(with_reducible apply Wp.callN;assumption))
   rw[show (i:Int)+1=((i+1:Nat):Int) by omega];refine z3e0 g1 r kn hp hw hK hKn m ks (i+1) fu v2 _ h2 k d2 (by omega) (t.trans t2) k2 fun v' H' kr tr=>hk v' H' (kr.congr fun j hj=>?_) tr;rw[z342,ends_cat (by omega)]
end
section
variable {n d p b9 op:Nat}{h h0:AHeap}{s:z11}{w:List Nat}{kv:AV}{K:List (List AV)}{T:List z9e}{f:Nat→Bool}{Q:ARes→AHeap→Prop}{v:AV}
theorem z3ec{k86:AV→AHeap→R}(g1:GrowT z17 6 K kv T)(r:RowsAt h T)(kn:RowH h p z17 (z25 op w kv))(hp:p<h.next)(hw:WordsOk w)(hKn:K.length<1000000)(kf:Tr h v (s.length+1) f)(hl:s.length<900)(hn:1000<n)(hx:z7a TBo h.ex=false):
  ∀(l:List (List AV)) (ks:List Nd) (i fu:Nat) (u:AV) (g:Nat→Bool) (H:AHeap),KidE n (d+1) s h l ks→K.drop i=l→K.length - i<fu→Tch [] h H→Tr H u (s.length+1) g→
   (∀v' H',Tr H' v' (s.length+1) (fun j=>g j||z6a (z488 ks) s f j)→Tch [] h H'→Wp (k86 v' H') Q)→Wp (z111 (z14 n (d+1)) s v (.ptr p 0) k86 fu u (i:Int) H) Q
 |_,_,_,0,_,_,_,_,_,hf,_,_,_=>by omega
 |l,ks,i,fu+1,u,g,H,kk,d1,hf,t,ku,hk=>by
  rw[z1da];unfold z13c
  have c5:z9 H (.ptr p (0+5))=some kv:=y10 (kn.tch t hp (by simp)) (by
   obtain⟨a,b,c,d,rfl⟩:=z2a8 hw;rfl)
  have hlen:=g1.len
  cases kk with
  |nil=>
   have:=z186 d1
   repeat(first|(with_reducible first|refine Wp.lett ?_|(apply Wp.obind;first|exact c5|exact hlen|exact ze _ _ _))|((with_reducible refine y7 ?_ ?_;apply decide_eq_false);omega))
   refine hk u H (ku.congr fun j hj=>?_) t;rw[z488,z4b6,Bool.or_false]
  |cons e k=>
   rename_i c t1 m ks;obtain⟨hi1,hc,d2⟩:=z149 d1;obtain⟨p1,_,x1,y1⟩:=(z13f g1 (r.keep t)).row hi1;rw[hc] at y1;obtain⟨v2,h2,e2,k2,t2⟩:=e f v H t (kf.keep t);have tA:=t.trans t2;obtain⟨v3,h3,e3,k3,t3⟩:=both_r (n:=n) (d:=d) (ku.keep t2) k2 (by omega) hn (by rw[tA.2.1];exact hx)
   repeat(first|((with_reducible refine yf ?_ ?_ ?_);omega;omega)|(with_reducible first|refine Wp.lett ?_|(apply Wp.obind;first|exact c5|exact hlen|exact x1|exact y1|exact ze _ _ _))|((with_reducible refine y8 ?_ ?_;apply decide_eq_true);omega)|(with_reducible apply Wp.callN;assumption))
   rw[show (i:Int)+1=((i+1:Nat):Int) by omega];refine z3ec g1 r kn hp hw hKn kf hl hn hx m ks (i+1) fu v3 _ h3 k d2 (by omega) (tA.trans t3) k3 fun v' H' kr tr=>hk v' H' (kr.congr fun j hj=>?_) tr;rw[z488,ends_or,Bool.or_assoc]
end
mutual
theorem ends_ok:∀(t:Nd) {c:List AV} {T:List z9e} {D n:Nat} {s:z11} {h:AHeap},z2fe t→NodeT t c T→RowsAt h T→2*t.sz+3≤D→t.sz+1000<n→t.sz<1000000→s.length<900→z7a TBo h.ex=false→EndsW n D s h c (z1a5 t)
 | .mk op w ks,_,_,0,n,s,h,_,_,_,hD,_,_,_,_=>by omega
 | .mk op w ks,c,T,D+1,n,s,h,⟨on1,on2⟩,k1,r1,hD,hn,hz,hl,hx=>by
  intro f v H tH kf;rw[Nd.sz] at hD hn hz;have hsl:=z2b2 ks
  cases k1 with
  |mk hw g1 ks1=>
   rename_i kc1 kv1 T01 T11;have hl1:=ks1.len;have hK:∀c∈kc1,c.length=6∧c.all AV.one=true:=g1.1;obtain⟨d,rfl⟩:∃d,D=d+2:=⟨D - 2,by omega⟩;have kk:=(z251 ks (D:=d+2) (n:=n) (s:=s) on2 ks1 r1.right (by omega) (by omega) (by omega) hl hx).keep tH;have rH:=r1.left.keep tH;have hxH:z7a TBo H.ex=false:=by rw[tH.2.1];exact hx
   suffices hK:Wp (z14 n (d+2+1) 31 [.agg (z25 op w kv1),z12 s,v] H) fun r h'=>∃v',r=.ret v'∧Tr h' v' (s.length+1) (z6a (z1a5 (.mk op w ks)) s f)∧Tch [] H h' by
    obtain⟨_,h',e,v',rfl,k⟩:=hK;exact⟨v',h',e,k⟩
   rw[z39f];unfold z162;have o1:=z57 (op:=op) (w:=w) g1.one.1;have ll:=z1b s;have el:z7b s+1=((s.length+1:Nat):Int):=by omega
   have M:=Mem.nil [] H;refine y16 M o1 fun h1 M1=>?_
   (((with_reducible refine yf ?_ ?_ ?_);omega;omega))
   rw[el];have hxH1:z7a TBo h1.ex=false:=by rw[M1.ex];exact hxH
   refine y2d (Mem.nil [] h1) (z224 _ (by omega) h1) (bl_one _ _) hxH1 fun h2 M2=>?_;have t2:=M1.tch.trans M2.tch;have kn1:=M1.at0.1;have hp1:=M1.at0.2.1;have kn2:=kn1.tch M2.tch hp1 (by simp);have hp2:=Nat.lt_of_lt_of_le hp1 M2.tch.1;have hx2:z7a TBo h2.ex=false:=by rw[M2.ex];exact hxH1
   have c0:z9 h2 (.ptr H.next (0+0))=some (.int .i64 (op:Int)):=y10 kn2 rfl
   have c5:∀{h3:AHeap},Tch [] h2 h3→z9 h3 (.ptr H.next (0+5))=some kv1:=fun t=>y10 (kn2.tch t hp2 (by simp)) (by
    obtain⟨a,b,c,d,rfl⟩:=z2a8 hw;rfl)
   have kf2:=kf.keep t2;have rH2:=rH.keep t2;rw[z1a5]
   by_cases e2:op=2
   ·subst e2
    rw[if_pos rfl]
    repeat(first|(with_reducible first|(first|refine y12 (fun _ _=>?_)|refine y5 (fun _ _=>?_))|refine Wp.lett ?_|(apply Wp.obind;first|exact c0|exact z5 _ _|exact ze _ _ _))|((with_reducible refine y8 ?_ ?_;apply z28);omega))
    rename_i k21 ek21
    refine z43f (d:=d+1) (h:=h1) hw kn1 hp1 (kf.keep M1.tch) hl (fun H' M'=>?_) s.length n 0 h2 (by omega) (Nat.zero_add _) (by
     rw[bl_ext (f:=fun j=>if j≤0 then z6a (fun u=>∃c,u=[c]∧inW w c=true) s f j else false) (g:=fun _=>false) (fun j=>by
      by_cases hj:j≤0
      ·rw [if_pos hj, show j = 0 by omega]
       exact ends_set0
      ·rw[if_neg hj])]
     exact M2)
    rw[ek21]
    repeat((with_reducible refine yd (by assumption) ?_))
    exact Wp.ret ⟨_,rfl,⟨_,rfl,M'.at0.1,M'.at0.2.1⟩,M1.tch.trans M'.tch⟩
   rw[if_neg e2]
   by_cases e3:op=3
   ·subst e3
    rw[if_pos rfl]
    repeat(first|(with_reducible first|refine y5 (fun _ _=>?_)|refine Wp.lett ?_|(apply Wp.obind;first|exact c0|exact z5 _ _|exact ze _ _ _))|((with_reducible refine y8 ?_ ?_;apply z28);omega)|((with_reducible refine y7 ?_ ?_;apply z2e);omega))
    rename_i k58 ek58;refine z3e0 (d:=d+2) (h:=h2) g1 rH2 kn2 hp2 hw hK (by omega) kc1 ks 0 n v f h2 (kk.keep t2) List.drop_zero (by omega) (Tch.refl _ _) kf2 fun v' H' kr tr=>?_;rw[ek58]
    repeat((with_reducible refine yd (by assumption) ?_))
    exact Wp.ret ⟨v',rfl,kr,t2.trans tr⟩
   rw[if_neg e3]
   by_cases e4:op=4
   ·subst e4
    rw[if_pos rfl]
    repeat(first|(with_reducible first|refine y5 (fun _ _=>?_)|refine Wp.lett ?_|(apply Wp.obind;first|exact c0|exact z5 _ _|exact ze _ _ _))|((with_reducible refine y8 ?_ ?_;apply z28);omega)|((with_reducible refine y7 ?_ ?_;apply z2e);omega))
    rename_i k86 ek86;refine z3ec (d:=d+1) (h:=h2) g1 rH2 kn2 hp2 hw (by omega) kf2 hl (by omega) hx2 kc1 ks 0 n _ (fun _=>false) h2 (kk.keep t2) List.drop_zero (by omega) (Tch.refl _ _) ⟨_,rfl,M2.at0.1,M2.at0.2.1⟩ fun v' H' kr tr=>?_;rw[ek86]
    repeat((with_reducible refine yd (by assumption) ?_))
    exact Wp.ret ⟨v',rfl,kr.congr fun j hj=>Bool.false_or _,t2.trans tr⟩
   rw[if_neg e4]
   by_cases e57:5≤op∧op≤7
   ·have hone := on1.2 e57.1
    have kq:=(z251 ks (D:=d+1) (n:=n) (s:=s) on2 ks1 r1.right (by omega) (by omega) (by omega) hl hx).keep tH
    match ks,hone,kk,hl1,kq with
    |[t1],_,kk,hl1,kq=>
     match kc1,hl1,kk,g1,hK,kq with
     |[c1],_,.cons e _,g1,hK,.cons eq1 _=>
      obtain⟨l6,o6⟩:=hK c1 List.mem_cons_self;obtain⟨p1,_,x1,y1⟩:=(z13f g1 rH2).row (i:=0) (by simp);have x2:ze8 6 kv1 0=some (.ptr p1 (0*6)):=x1;have y2:z15 h2 6 (.ptr p1 (0*6))=some c1:=y1;have d5:=c5 (Tch.refl _ _);have eL:z2fd [t1]=z1a5 t1:=by rw[z2fd]
      by_cases e7:op=7
      ·subst e7
       rw[if_neg (by decide),if_neg (by decide),if_pos rfl,eL];obtain⟨v3,h3,g3,k3,t3⟩:=e f v h2 t2 kf2;have tA:=t2.trans t3;obtain⟨v4,h4,g4,k4,t4⟩:=both_r (n:=n) (d:=d+1) (kf2.keep t3) k3 (by omega) (by omega) (by rw[t3.2.1];exact hx2)
       repeat(first|(with_reducible first|refine y5 (fun _ _=>?_)|refine Wp.lett ?_|(apply Wp.obind;first|exact c0|exact d5|exact x2|exact y2|exact z5 _ _|exact ze _ _ _))|((with_reducible refine y8 ?_ ?_;apply z28);omega)|((with_reducible refine y7 ?_ ?_;apply z2e);omega)|(with_reducible first|(apply Wp.callN;assumption)|refine yd (by assumption) ?_))
       exact Wp.ret ⟨v4,rfl,k4.congr fun j hj=>by rw[ends_or,z380 (by omega)],tA.trans t4⟩
      by_cases e5:op=5
      ·subst e5
       rw[if_pos rfl,eL];obtain⟨v3,h3,g3,k3,t3⟩:=z435 (n:=n) (d:=d) (h:=h2) (f:=f) (v:=v) eq1 l6 o6 t2 hl (by omega) hxH kf2
       repeat(first|(with_reducible first|refine y5 (fun _ _=>?_)|refine Wp.lett ?_|(apply Wp.obind;first|exact c0|exact d5|exact x2|exact y2|exact z5 _ _|exact ze _ _ _))|((with_reducible refine y8 ?_ ?_;apply z28);omega)|((with_reducible refine y7 ?_ ?_;apply z2e);omega)|(with_reducible first|(apply Wp.callN;assumption)|refine yd (by assumption) ?_))
       exact Wp.ret ⟨v3,rfl,k3,t2.trans t3⟩
      obtain rfl:op=6:=by omega
      rw[if_neg (by decide),if_pos rfl,eL];obtain⟨v3,h3,g3,k3,t3⟩:=e f v h2 t2 kf2;have tA:=t2.trans t3;obtain⟨v4,h4,g4,k4,t4⟩:=z435 (n:=n) (d:=d) (h:=h3) (f:=z6a (z1a5 t1) s f) (v:=v3) eq1 l6 o6 tA hl (by omega) hxH k3;obtain⟨p2,_,x3,y3⟩:=(z13f g1 (rH2.keep t3)).row (i:=0) (by simp);have x4:ze8 6 kv1 0=some (.ptr p2 (0*6)):=x3
      have ep:p2=p1:=by
       rw[x2] at x4
       simpa using x4.symm
      subst ep;have y4:z15 h3 6 (.ptr p2 (0*6))=some c1:=y3
      repeat(first|(with_reducible first|refine y5 (fun _ _=>?_)|refine Wp.lett ?_|(apply Wp.obind;first|exact c0|exact d5|exact x2|exact y2|exact z5 _ _|exact ze _ _ _))|((with_reducible refine y8 ?_ ?_;apply z28);omega)|((with_reducible refine y7 ?_ ?_;apply z2e);omega)|(with_reducible apply Wp.callN;assumption))
      refine Wp.chk (z1a4 rfl (z1a4 rfl (z1a4 (z183 (by kernel_rfl) (by kernel_rfl) y4) (z1a4 (z360 (by kernel_rfl) (c5 t3)) rfl)))) ?_;refine Wp.callN g4 ?_
      repeat((with_reducible refine yd (by assumption) ?_))
      exact Wp.ret ⟨v4,rfl,k4.congr fun j hj=>(ends_plus.resolve_right (by omega)).symm,tA.trans t4⟩
   ·rw [if_neg (by omega), if_neg (by omega), if_neg (by omega)]
    repeat(first|(with_reducible first|refine y5 (fun _ _=>?_)|refine Wp.lett ?_|(apply Wp.obind;first|exact c0|exact z5 _ _|exact ze _ _ _))|((with_reducible refine y7 ?_ ?_;apply z2e);omega)|(with_reducible refine yd (by assumption) ?_))
    exact Wp.ret ⟨v,rfl,kf2.congr fun j hj=>(z380 (by omega)).symm,t2⟩
theorem z251:∀(ks:List Nd) {k1:List (List AV)} {T:List z9e} {D n:Nat} {s:z11} {h:AHeap},oneL ks→KidsT ks k1 T→RowsAt h T→2*szL ks+3≤D→szL ks+1000<n→szL ks<1000000→s.length<900→z7a TBo h.ex=false→KidE n D s h k1 ks
 |[],_,_,_,_,_,_,_,k1,_,_,_,_,_,_=>by
  cases k1
  exact .nil
 |t::ks,_,_,D,n,s,h,⟨p1,p2⟩,k1,r1,hD,hn,hN,hl,hx=>by
  rw[szL] at hD hn hN
  cases k1 with
  |cons a1 b1=>exact .cons (ends_ok t p1 a1 r1.left (by omega) (by omega) (by omega) hl hx) (z251 ks p2 b1 r1.right (by omega) (by omega) (by omega) hl hx)
end
theorem z4a8{w:List Nat}(hw:WordsOk w){i:Nat}(hi:i<256):inW (z12e w) i= !inW w i:=by
 unfold inW z12e;have hl:=hw.len;have h4:i/64<w.length:=by omega
 rw[List.getD_eq_getElem?_getD,List.getElem?_map,List.getD_eq_getElem?_getD,List.getElem?_eq_getElem h4,Option.map_some,Option.getD_some,Option.getD_some,Nat.testBit_xor]
 have:Nat.testBit 18446744073709551615 (i%64)=true:=by
  have:=Nat.testBit_two_pow_sub_one 64 (i%64);rw[decide_eq_true (Nat.mod_lt _ (by decide))] at this;exact this
 rw[this,Bool.xor_true]
theorem z416{v w:List Nat}(hv:WordsOk v)(hw:WordsOk w)(h:∀i,i<256→inW v i=inW w i):v=w:=by
 have l1:=hv.len;have l2:=hw.len;refine List.ext_getElem (by omega) fun k h1 h2=>Nat.eq_of_testBit_eq fun j=>?_
 by_cases hj:j<64
 ·have := h (k * 64 + j) (by omega)
  unfold inW at this;rw[show (k*64+j)/64=k by omega,show (k*64+j)%64=j by omega,List.getD_eq_getElem?_getD,List.getD_eq_getElem?_getD,List.getElem?_eq_getElem h1,List.getElem?_eq_getElem h2] at this;exact this
 ·have p : 18446744073709551616 ≤ 2 ^ j := by
   have:=Nat.pow_le_pow_right (n:=2) (by decide) (show 64≤j by omega);omega
  rw[Nat.testBit_lt_two_pow (Nat.lt_of_lt_of_le (hv.small _ (List.getElem_mem h1)) p),Nat.testBit_lt_two_pow (Nat.lt_of_lt_of_le (hw.small _ (List.getElem_mem h2)) p)]
noncomputable def z121(w:List Nat):List AV:=(List.range 256).map fun i=>AV.bool (inW w i)
theorem z201(w:List Nat):(z121 w).length=256:=by simp[z121]
theorem z279(w:List Nat){i:Nat}(hi:i<256):(z121 w)[i]? =some (.bool (inW w i)):=by
 unfold z121;rw[List.getElem?_map,List.getElem?_range hi];rfl
theorem boolsA_set{w:List Nat}(hw:WordsOk w){c:Nat}(hc:c<256):(z121 w).set c (.bool true)=z121 (z485 w c):=by
 refine List.ext_getElem? fun i=>?_
 by_cases hi:i<256
 ·rw [z279 _ hi, inW_add hw hc]
  by_cases h:c=i
  ·subst h
   rw[List.getElem?_set_self (by rw[z201];exact hi),decide_eq_true rfl,Bool.or_true]
  ·rw[List.getElem?_set_ne h,z279 _ hi,decide_eq_false (Ne.symm h),Bool.or_false]
 ·rw[List.getElem?_eq_none (by rw[List.length_set,z201];omega),List.getElem?_eq_none (by rw[z201];omega)]
theorem bools0:z121 zeroW=[.bool false,.bool false,.bool false,.bool false,.bool false,.bool false,.bool false,.bool false,.bool false,.bool false,.bool false,.bool false,.bool false,.bool false,.bool false,.bool false,.bool false,.bool false,.bool false,.bool false,.bool false,.bool false,.bool false,.bool false,.bool false,.bool false,.bool false,.bool false,.bool false,.bool false,.bool false,.bool false,.bool false,.bool false,.bool false,.bool false,.bool false,.bool false,.bool false,.bool false,.bool false,.bool false,.bool false,.bool false,.bool false,.bool false,.bool false,.bool false,.bool false,.bool false,.bool false,.bool false,.bool false,.bool false,.bool false,.bool false,.bool false,.bool false,.bool false,.bool false,.bool false,.bool false,.bool false,.bool false,.bool false,.bool false,.bool false,.bool false,.bool false,.bool false,.bool false,.bool false,.bool false,.bool false,.bool false,.bool false,.bool false,.bool false,.bool false,.bool false,.bool false,.bool false,.bool false,.bool false,.bool false,.bool false,.bool false,.bool false,.bool false,.bool false,.bool false,.bool false,.bool false,.bool false,.bool false,.bool false,.bool false,.bool false,.bool false,.bool false,.bool false,.bool false,.bool false,.bool false,.bool false,.bool false,.bool false,.bool false,.bool false,.bool false,.bool false,.bool false,.bool false,.bool false,.bool false,.bool false,.bool false,.bool false,.bool false,.bool false,.bool false,.bool false,.bool false,.bool false,.bool false,.bool false,.bool false,.bool false,.bool false,.bool false,.bool false,.bool false,.bool false,.bool false,.bool false,.bool false,.bool false,.bool false,.bool false,.bool false,.bool false,.bool false,.bool false,.bool false,.bool false,.bool false,.bool false,.bool false,.bool false,.bool false,.bool false,.bool false,.bool false,.bool false,.bool false,.bool false,.bool false,.bool false,.bool false,.bool false,.bool false,.bool false,.bool false,.bool false,.bool false,.bool false,.bool false,.bool false,.bool false,.bool false,.bool false,.bool false,.bool false,.bool false,.bool false,.bool false,.bool false,.bool false,.bool false,.bool false,.bool false,.bool false,.bool false,.bool false,.bool false,.bool false,.bool false,.bool false,.bool false,.bool false,.bool false,.bool false,.bool false,.bool false,.bool false,.bool false,.bool false,.bool false,.bool false,.bool false,.bool false,.bool false,.bool false,.bool false,.bool false,.bool false,.bool false,.bool false,.bool false,.bool false,.bool false,.bool false,.bool false,.bool false,.bool false,.bool false,.bool false,.bool false,.bool false,.bool false,.bool false,.bool false,.bool false,.bool false,.bool false,.bool false,.bool false,.bool false,.bool false,.bool false,.bool false,.bool false,.bool false,.bool false,.bool false,.bool false,.bool false,.bool false,.bool false,.bool false,.bool false,.bool false,.bool false,.bool false,.bool false,.bool false,.bool false,.bool false,.bool false,.bool false,.bool false,.bool false,.bool false,.bool false,.bool false,.bool false]:=by kernel_rfl
open Go.RowKit Abs
theorem quoU8_64{c:Nat}(h:c<256):z44a .u8 (c:Int) 64=some ((c/64:Nat):Int):=by
 unfold z44a;rw[if_neg (by decide),Int.tdiv_eq_ediv_of_nonneg (by omega),z3f0]
 congr 1
 omega
theorem remU8_64{c:Nat}:z448 .u8 (c:Int) 64=some ((c%64:Nat):Int):=by
 unfold z448;rw[if_neg (by decide),Int.tmod_eq_emod_of_nonneg (by omega)]
 congr 1
section
variable {n d b p q i:Nat}{h h0:AHeap}{u:z11}{Q:ARes→AHeap→Prop}{S:List Nat}{xs T T0 T1:List z9e}{kc:List (List AV)}{kv:AV}{l:List Nd}{w:List Nat}
theorem addW_zero{c:Nat}:zeroW.set (c/64) (2 ^ (c%64))=z12a zeroW c 1:=by
 show _=z485 zeroW c;unfold z485
 have:zeroW.getD (c/64) 0=0:=by
  unfold zeroW;rw[List.getD_eq_getElem?_getD]
  match c/64 with
  |0=>rfl
  |1=>rfl
  |2=>rfl
  |3=>rfl
  |_+4=>rfl
 rw[this,Nat.zero_or]
theorem One_w{c:Nat}(hc:c<256):z14 n (d+1) 43 [.int .u8 (c:Int)] h=some (.ret (.agg (z25 2 (z12a zeroW c 1) .nsl)),h):=by
 apply Wp.eq;rw[z3f4];refine Wp.gc ?_
 suffices hK:Wp (z16e (z14 n d) n c h) fun r h'=>r=.ret (.agg (z25 2 (z12a zeroW c 1) .nsl))∧Tch [] h h' from hK.mono fun r h' ⟨e,t⟩=>⟨t.above,by rw[e];exact z19d _ _,e,rfl⟩
 unfold z16e;have Mx:=Mem.nil [] h;have hi:c/64<4:=by omega
 have e1:=quoU8_64 hc;have e2:∀b,z20b 4 1 (.ptr b 1) ((c/64:Nat):Int)=some (.ptr b (1+c/64)):=fun b=>zc7 hi;have e3:=remU8_64 (c:=c);have e4:=z1f5 (k:=c%64) (Nat.mod_lt _ (by decide))
 repeat(first|((with_reducible apply y11 Mx);rfl;rfl;(rfl);clear Mx;intro _ Mx)|((with_reducible apply yc Mx);clear Mx;intro _ Mx)|(with_reducible apply Wp.obind;first|exact e1|exact e2 _|exact e3|exact e4)|rw[z8])
 have k0:RowH _ _ _ ([AV.int .i64 2]++(z1c zeroW++[AV.nsl])):=Mx.at0.1;refine Wp.st1 k0 (by simp[z38];unfold zeroW;simp;omega) rfl fun h5 k5 t5 _=>?_
 have hs:([AV.int .i64 2]++(z1c zeroW++[AV.nsl])).set (1+c/64) (.int .u64 ((2 ^ (c%64):Nat):Int))=z25 2 (z12a zeroW c 1) AV.nsl:=by
  have:=z195 (pre:=[AV.int .i64 2]) (post:=[.nsl]) (w:=zeroW) (i:=c/64) (x:=2 ^ (c%64)) hi;rw[addW_zero] at this;exact this
 rw[hs] at k5;have Mz:=y1b (xs:=[]) Mx t5 k5;clear Mx;have Mx:=Mz;clear Mz k0 k5;have ho:=z57 (kv:=.nsl) (op:=2) (w:=z12a zeroW c 1) rfl;have hl:(z25 2 (z12a zeroW c 1) .nsl).length=6:=zf0 (op:=2) (zae 1 z3b c);refine y14 Mx hl ?_;refine y1c Mx hl rfl ho fun h6 Mz=>?_;refine y1a Mz hl ?_;exact Wp.ret ⟨rfl,Mz.tch⟩
theorem z489{hp0:AHeap}{pre post:List AV}{k12:AHeap→R}(hpre:pre.length=1)(eq:hp0.next=b){e:TypeId}:∀(m f lo:Nat) (w:List Nat) (H:AHeap),m<f→lo+m=256→WordsOk w→RowH H b e (pre++(z1c w++post))→
   (∀H',RowH H' b e (pre++(z1c (z12a w lo m)++post))→Tch [b] H H'→Wp (k12 H') Q)→Wp (z145 hp0 k12 f (lo:Int) H) Q
 |_,0,_,_,_,hf,_,_,_,_=>by omega
 |0,f+1,lo,w,H,hf,hm,hw,k,hk=>by
  rw[z18a];unfold z118
  repeat(first|(with_reducible refine Wp.lett ?_)|((with_reducible refine y7 ?_ ?_;apply decide_eq_false);omega))
  exact hk H k (Tch.refl _ _)
 |m+1,f+1,lo,w,H,hf,hm,hw,k,hk=>by
  rw[z18a];unfold z118;have hi:lo/64<4:=by omega
  have hl:lo/64<w.length:=by rw[hw.len];exact hi
  have hc:=z148 (pre:=pre) (post:=post) hl;have e1:=z361 (c:=lo) (by omega);have e2:z20b 4 1 (.ptr hp0.next 1) ((lo/64:Nat):Int)=some (.ptr b (1+lo/64)):=by rw[eq];exact zc7 hi
  have e3:=z353 (c:=lo);have e4:=z1f5 (k:=lo%64) (Nat.mod_lt _ (by decide));rw[hpre] at hc;have e5:=y10 k hc
  repeat(first|(with_reducible first|refine Wp.lett ?_|(apply Wp.obind;first|exact e1|exact e2|exact e3|exact e4|exact e5|exact z5 _ _))|((with_reducible refine y8 ?_ ?_;apply decide_eq_true);omega))
  rw[z12f (hw.get _) (z146 (Nat.mod_lt _ (by decide)))];refine Wp.st1 k (by simp[z38];omega) rfl fun h' k' t' _=>?_;rw[←hpre,z195 hl] at k'
  repeat(((with_reducible refine yf ?_ ?_ ?_);omega;omega))
  have el:(lo:Int)+1=((lo+1:Nat):Int):=by omega
  rw[el];exact z489 hpre eq m f (lo+1) (z485 w lo) h' (by omega) (by omega) (z2fa hw lo) k' fun H' k2 t2=>hk H' k2 (t'.trans t2)
theorem All_w(hn:300<n):z14 n (d+1) 45 [] h=some (.ret (.agg (z25 2 z399 .nsl)),h):=by
 apply Wp.eq;rw[z3f6];refine Wp.gc ?_
 suffices hK:Wp (z170 (z14 n d) n h) fun r h'=>r=.ret (.agg (z25 2 z399 .nsl))∧Tch [] h h' from hK.mono fun r h' ⟨e,t⟩=>⟨t.above,by rw[e];exact z19d _ _,e,rfl⟩
 unfold z170;have Mx:=Mem.nil [] h
 repeat(first|((with_reducible apply y11 Mx);rfl;rfl;(rfl);clear Mx;intro _ Mx)|((with_reducible apply yc Mx);clear Mx;intro _ Mx)|(with_reducible refine y12 (fun _ _=>?_))|rw[z8])
 rename_i k12 ek12;have k0:RowH _ _ _ ([AV.int .i64 2]++(z1c zeroW++[AV.nsl])):=Mx.at0.1;refine z489 (lo:=0) rfl rfl 256 n _ _ (by omega) rfl z3b k0 fun h5 k5 t5=>?_;refine y21 ek12 ?_;have Mz:=y1b (xs:=[]) Mx t5 k5;clear Mx;have Mx:=Mz;clear Mz k0 k5;have:z12a zeroW 0 256=z399:=anyW_eq;rw[this] at Mx;have ho:=z57 (kv:=.nsl) (op:=2) (w:=z399) rfl;have hl:([AV.int .i64 2]++(z1c (z399)++[AV.nsl])).length=6:=zf0 (op:=2) z22e;refine y14 Mx hl ?_;refine y1c Mx hl rfl ho fun h6 Mz=>?_;refine y1a Mz hl ?_;exact Wp.ret ⟨rfl,Mz.tch⟩
theorem z487(op:Nat)(Mx:Mem S h0 h (xs++(T0++T1)))(g:GrowT z17 6 kc kv T0)(k:KidsT l kc T1):∃c T h',z14 n (d+1) 44 [.int .i64 (op:Int),kv] h=some (.ret (.agg c),h')∧NodeT (z1a0 op l) c T∧Mem S h0 h' (xs++T):=by
 have hkl:=k.len
 match l,k,hkl with
 |[],k,hkl=>
  cases k
  rcases g.2 with⟨_,rfl,rfl⟩|⟨hh,_⟩
  ·refine ⟨z25 1 zeroW .nsl, [], ?_⟩
   suffices hK:∃h',z14 n (d+1) 44 [.int .i64 (op:Int),.nsl] h=some (.ret (.agg (z25 1 zeroW .nsl)),h')∧Mem S h0 h' (xs++([]++[])) by
    obtain⟨h',e,M'⟩:=hK;exact⟨h',e,y19 1 z3b,M'⟩
   apply Wp.ex;rw[z1d0];unfold zff;have hlen:z249 .nsl=some 0:=rfl
   repeat(first|((with_reducible apply y14 Mx);rfl)|((with_reducible apply y11 Mx);rfl;rfl;(rfl);clear Mx;intro _ Mx)|((with_reducible apply yc Mx);clear Mx;intro _ Mx)|(with_reducible first|refine Wp.lett ?_|(apply Wp.obind;exact hlen))|((with_reducible refine y8 ?_ ?_;apply z28);omega)|rw[z8])
   exact Wp.ret ⟨rfl,Mx.pop⟩
  ·exact absurd rfl hh
 |[t],k,hkl=>
  obtain⟨c,rfl,kt⟩:=k.one;obtain⟨q,rfl,rfl⟩:=z227 g;refine⟨c,T1,?_⟩
  suffices hK:∃h',z14 n (d+1) 44 [.int .i64 (op:Int),.sl q 0 1 6] h=some (.ret (.agg c),h')∧Mem S h0 h' (xs++([(q,z17,c)]++T1)) by
   obtain⟨h',e,M'⟩:=hK;exact⟨h',e,kt,z223 M'⟩
  apply Wp.ex;rw[z1d0];unfold zff;have hlen:z249 (.sl q 0 1 6)=some 1:=rfl;have ei:ze8 6 (.sl q 0 1 6) 0=some (.ptr q 0):=idx0 q 0
  repeat(first|((with_reducible apply yc Mx);clear Mx;intro _ Mx)|(with_reducible first|refine Wp.lett ?_|(apply Wp.obind;first|exact hlen|exact ei))|((with_reducible refine y8 ?_ ?_;apply z28);omega)|((with_reducible refine y7 ?_ ?_;apply z2e);omega)|rw[z8])
  refine Wp.obind (RowH.ldAll (Mem.at (xs:=_::xs) Mx).1 kt.len) ?_;refine y11 Mx kt.len rfl kt.one fun h6 Mz=>?_;refine y14 Mz kt.len ?_;exact Wp.ret ⟨rfl,Mz.pop⟩
 |t::t'::ts,k,hkl=>
  refine⟨z25 op zeroW kv,T0++T1,?_⟩
  suffices hK:∃h',z14 n (d+1) 44 [.int .i64 (op:Int),kv] h=some (.ret (.agg (z25 op zeroW kv)),h')∧Mem S h0 h' (xs++(T0++T1)) by
   obtain⟨h',e,M'⟩:=hK;exact⟨h',e,NodeT.mk z3b g k,M'⟩
  apply Wp.ex;rw[z1d0];unfold zff;have hlen:=g.len;simp only[List.length_cons] at hkl;have hl:=zf0 (kv:=kv) (op:=op) z3b;have ho:=z57 (op:=op) (w:=zeroW) g.one.1;have hb:=overBld g op
  repeat(first|((with_reducible apply y14 Mx);rfl)|((with_reducible apply y11 Mx);rfl;rfl;((with_reducible assumption));clear Mx;intro _ Mx)|((with_reducible apply yc Mx);clear Mx;intro _ Mx)|(with_reducible first|refine Wp.lett ?_|(apply Wp.obind;first|exact hlen|exact hb))|((with_reducible refine y7 ?_ ?_;apply z2e);omega)|rw[z8])
  exact Wp.ret ⟨rfl,Mx.pop⟩
def z40f:Except Nat (Nat×Nat)→AV
 | .ok (c,j)=>.tup [.int .u8 (c:Int),.int .i64 (j:Int),.bool true]
 | .error q=>.tup [.int .u8 0,.int .i64 (q:Int),.bool false]
theorem z454(hi:i≤u.length)(hu:u.length≤1000000):z14 n (d+1) 72 [z12 u,.int .i64 (i:Int)] h=some (.ret (z40f (z1cb u i)),h):=by
 apply Wp.eq;rw[z2ff];have hsc:∀x,(z40f x).scal=true:=fun x=>by cases x<;>rfl
 suffices hK:Wp (zcf (z14 n d) n u i h) fun r h'=>r=.ret (z40f (z1cb u i))∧h'=h from Wp.gc (hK.mono fun r h' ⟨e,e2⟩=>⟨by rw[e2];exact Above.refl _,by rw[e];exact hsc _,e,rfl⟩)
 unfold zcf z1cb;have ll:=z1b u
 rcases Nat.lt_or_ge i u.length with hlt|hge
 ·rw [at?_lt hlt]
  have hx:=z30 (l:=u) hlt
  generalize hc:(u[i]).toNat=c at hx
  dsimp only
  by_cases h92:c=92
  ·rw [if_pos h92]
   rcases Nat.lt_or_ge (i+1) u.length with hlt1|hge1
   ·rw [at?_lt hlt1]
    have hx1:=z30 (l:=u) hlt1;rw[show ((i+1:Nat):Int)=(i:Int)+1 by omega] at hx1
    repeat(first|(with_reducible refine y5 (fun _ _=>?_))|((with_reducible refine yf ?_ ?_ ?_);omega;omega)|(with_reducible first|refine Wp.lett ?_|(apply Wp.obind;first|exact hx|exact hx1))|((with_reducible refine y7 ?_ ?_);((with_reducible first|apply zc9|apply z2e);omega))|(with_reducible refine yd (by assumption) ?_))
    exact Wp.ret ⟨by simp[z40f],rfl⟩
   ·rw [at?_ge hge1]
    repeat(first|(with_reducible refine y5 (fun _ _=>?_))|((with_reducible refine yf ?_ ?_ ?_);omega;omega)|(with_reducible first|refine Wp.lett ?_|(apply Wp.obind;exact hx))|((with_reducible refine y8 ?_ ?_);((with_reducible first|apply zab|apply z28);omega))|((with_reducible refine y7 ?_ ?_);((with_reducible first|apply zc9|apply z2e);omega))|(with_reducible refine yd (by assumption) ?_))
    exact Wp.ret ⟨by simp[z40f],rfl⟩
  ·rw [if_neg h92]
   by_cases h1:c=91
   ·rw [if_pos (.inl h1)]
    repeat(first|(with_reducible first|refine y5 (fun _ _=>?_)|refine Wp.lett ?_|(apply Wp.obind;exact hx))|((with_reducible refine y8 ?_ ?_);first|(with_reducible rfl)|((with_reducible apply z28);omega))|((with_reducible refine y7 ?_ ?_;apply z2e);omega)|(with_reducible refine yd (by assumption) ?_))
    exact Wp.ret ⟨by simp[z40f],rfl⟩
   by_cases h2:c=93
   ·rw [if_pos (.inr (.inl h2))]
    repeat(first|(with_reducible first|refine y5 (fun _ _=>?_)|refine Wp.lett ?_|(apply Wp.obind;exact hx))|((with_reducible refine y8 ?_ ?_);first|(with_reducible rfl)|((with_reducible apply z28);omega))|((with_reducible refine y7 ?_ ?_;apply z2e);omega)|(with_reducible refine yd (by assumption) ?_))
    exact Wp.ret ⟨by simp[z40f],rfl⟩
   by_cases h3:c=94
   ·rw [if_pos (.inr (.inr (.inl h3)))]
    repeat(first|(with_reducible first|refine y5 (fun _ _=>?_)|refine Wp.lett ?_|(apply Wp.obind;exact hx))|((with_reducible refine y8 ?_ ?_);first|(with_reducible rfl)|((with_reducible apply z28);omega))|((with_reducible refine y7 ?_ ?_;apply z2e);omega)|(with_reducible refine yd (by assumption) ?_))
    exact Wp.ret ⟨by simp[z40f],rfl⟩
   by_cases h4:c=45
   ·rw [if_pos (.inr (.inr (.inr h4)))]
    repeat(first|(with_reducible first|refine y5 (fun _ _=>?_)|refine Wp.lett ?_|(apply Wp.obind;exact hx))|((with_reducible refine y8 ?_ ?_;apply z28);omega)|((with_reducible refine y7 ?_ ?_;apply z2e);omega)|(with_reducible refine yd (by assumption) ?_))
    exact Wp.ret ⟨by simp[z40f],rfl⟩
   ·rw [if_neg (by omega)]
    repeat(first|(with_reducible refine y5 (fun _ _=>?_))|((with_reducible refine yf ?_ ?_ ?_);omega;omega)|(with_reducible first|refine Wp.lett ?_|(apply Wp.obind;exact hx))|((with_reducible refine y8 ?_ ?_);((with_reducible first|apply zab|apply z28);omega))|((with_reducible refine y7 ?_ ?_;apply z2e);omega)|(with_reducible refine yd (by assumption) ?_))
    exact Wp.ret ⟨by simp[z40f],rfl⟩
 ·rw [at?_ge hge]
  repeat(first|(with_reducible first|refine y5 (fun _ _=>?_)|refine Wp.lett ?_)|((with_reducible refine y8 ?_ ?_);first|(with_reducible rfl)|((with_reducible apply z28);omega))|(with_reducible refine yd (by assumption) ?_))
  exact Wp.ret ⟨by simp[z40f],rfl⟩
end
abbrev z1c1:Nat:=103
noncomputable def z492:Except Nat (List Nat×Nat)→AV
 | .ok (w,j)=>.tup [.agg (z25 2 w .nsl),.int .i64 (j:Int),.bool true]
 | .error q=>.tup [.agg (z25 0 zeroW .nsl),.int .i64 (q:Int),.bool false]
section
variable {n d i j:Nat}{h H h0 hb hx:AHeap}{u:z11}{Q:ARes→AHeap→Prop}{S:List Nat}{ys:List z9e}{w:List Nat}{k25:Int→AHeap→R}
theorem z255{k108:AHeap→R}:∀(m f lo:Nat) (w:List Nat) (H:AHeap),m<f→lo+m≤256→WordsOk w→Mem [] h H ((hb.next,z1c1,z121 w)::ys)→
   (∀H',Mem [] h H' ((hb.next,z1c1,z121 (z12a w lo m))::ys)→Wp (k108 H') Q)→Wp (z9c hb ((lo+m:Nat) - 1:Int) k108 f (lo:Int) H) Q
 |_,0,_,_,_,hf,_,_,_,_=>by omega
 |0,f+1,lo,w,H,hf,hm,hw,M,hk=>by
  rw[z14d];unfold zd0
  repeat(first|((with_reducible refine yf ?_ ?_ ?_);omega;omega)|(with_reducible refine Wp.lett ?_)|((with_reducible refine y7 ?_ ?_;apply decide_eq_false);omega))
  exact hk H M
 |m+1,f+1,lo,w,H,hf,hm,hw,M,hk=>by
  rw[z14d];unfold zd0;have hl:lo<256:=by omega
  have e2:z20b 256 1 (.ptr hb.next 0) ((lo:Nat):Int)=some (.ptr hb.next lo):=by
   have:=zc7 (b:=hb.next) (o:=0) hl;rw[Nat.zero_add] at this;exact this
  repeat(first|((with_reducible refine yf ?_ ?_ ?_);omega;omega)|(with_reducible first|refine Wp.lett ?_|(apply Wp.obind;exact e2))|((with_reducible refine y8 ?_ ?_;apply decide_eq_true);omega)|rw[z8])
  refine y37 M (by rw[z201];exact hl) rfl fun h' M'=>?_;rw[boolsA_set hw hl] at M'
  repeat(((with_reducible refine yf ?_ ?_ ?_);omega;omega))
  have eh:((lo+(m+1):Nat) - 1:Int)=((lo+1+m:Nat) - 1:Int):=by omega
  have el:(lo:Int)+1=((lo+1:Nat):Int):=by omega
  rw[eh,el];exact z255 m f (lo+1) (z485 w lo) h' (by omega) (by omega) (z2fa hw lo) M' hk
theorem z2c2{nt:Bool}{k31:AHeap→R}(hw:WordsOk w):∀(m f k:Nat) (v:List Nat) (H:AHeap),m<f→k+m=256→WordsOk v→(∀i,i<256→inW v i=(decide (i<k)&& !(inW w i == nt)))→Mem [] h H ((hb.next,z1c1,z121 w)::(hx.next,z17,z25 2 v .nsl)::ys)→
   (∀H' v',WordsOk v'→(∀i,i<256→inW v' i= !(inW w i == nt))→Mem [] h H' ((hb.next,z1c1,z121 w)::(hx.next,z17,z25 2 v' .nsl)::ys)→Wp (k31 H') Q)→Wp (zbf hx nt hb k31 f (k:Int) H) Q
 |_,0,_,_,_,hf,_,_,_,_,_=>by omega
 |0,f+1,k,v,H,hf,hm,hv,hb,M,hk=>by
  rw[z14e];unfold zd1
  repeat(first|(with_reducible refine Wp.lett ?_)|((with_reducible refine y7 ?_ ?_;apply decide_eq_false);omega))
  refine hk H v hv (fun i hi=>?_) M;rw[hb i hi,decide_eq_true (by omega),Bool.true_and]
 |m+1,f+1,k,v,H,hf,hm,hv,hbit,M,hk=>by
  rw[z14e];unfold zd1;have hl:k<256:=by omega
  have e2:z20b 256 1 (.ptr hb.next 0) ((k:Nat):Int)=some (.ptr hb.next k):=by
   have:=zc7 (b:=hb.next) (o:=0) hl;rw[Nat.zero_add] at this;exact this
  have el:(k:Int)+1=((k+1:Nat):Int):=by omega
  repeat(first|(with_reducible first|refine Wp.lett ?_|(apply Wp.obind;exact e2))|((with_reducible refine y8 ?_ ?_;apply decide_eq_true);omega)|rw[z8])
  refine y28 M (z279 w hl) ?_
  by_cases hb2:(inW w k == nt)=true
  ·have hb3 : (!(inW w k == nt)) = false := by rw [hb2]; rfl
   repeat(first|(with_reducible refine y12 (fun _ _=>?_))|((with_reducible refine yf ?_ ?_ ?_);omega;omega)|(with_reducible first|refine Wp.lett ?_|(apply Wp.obind;exact z6 _)|(refine y7 ?_ ?_;assumption)|refine y21 (by assumption) ?_))
   rw[el];refine z2c2 hw m f (k+1) v H (by omega) (by omega) hv (fun i hi=>?_) M hk;rw[hbit i hi]
   by_cases h2:i=k
   ·subst h2
    rw[hb3,Bool.and_false,Bool.and_false]
   ·rw[decide_eq_decide.2 (show i<k↔i<k+1 by omega)]
  ·have hb3 : (!(inW w k == nt)) = true := by simpa using hb2
   have hi:k/64<4:=by omega
   have hl4:k/64<v.length:=by rw[hv.len];exact hi
   have e1:=z361 (c:=k) (by omega);have e5:z20b 4 1 (.ptr hx.next 1) ((k/64:Nat):Int)=some (.ptr hx.next (1+k/64)):=zc7 hi;have e3:=z353 (c:=k);have e4:=z1f5 (k:=k%64) (Nat.mod_lt _ (by decide));have hc:(z25 2 v .nsl)[1+k/64]? =_:=z148 (pre:=[.int .i64 2]) (post:=[.nsl]) hl4
   repeat(with_reducible first|refine y12 (fun _ _=>?_)|refine Wp.lett ?_|(apply Wp.obind;first|exact e1|exact e5|exact z6 _)|(refine y8 ?_ ?_;assumption))
   refine y36 M hc ?_
   repeat(with_reducible first|refine Wp.lett ?_|(apply Wp.obind;first|exact e5|exact e3|exact e4|exact z5 _ _))
   rw[z12f (hv.get _) (z146 (Nat.mod_lt _ (by decide)))];refine Wp.ms1 M (by rw[zf0 hv];omega) rfl fun h' M'=>?_;have hs:(z25 2 v .nsl).set (1+k/64) (.int .u64 ((v.getD (k/64) 0|||2 ^ (k%64):Nat):Int))=z25 2 (z485 v k) .nsl:=z195 (pre:=[.int .i64 2]) (post:=[.nsl]) hl4;rw[hs] at M'
   repeat(first|((with_reducible refine yf ?_ ?_ ?_);omega;omega)|(with_reducible refine y21 (by assumption) ?_))
   rw[el];refine z2c2 hw m f (k+1) (z485 v k) h' (by omega) (by omega) (z2fa hv k) (fun i hi=>?_) M' hk;rw[inW_add hv hl,hbit i hi]
   by_cases h2:i=k
   ·subst h2
    rw[hb3,decide_eq_true rfl,Bool.or_true,decide_eq_true (Nat.lt_succ_self _),Bool.true_and]
   ·rw[decide_eq_decide.2 (show i<k↔i<k+1 by omega),decide_eq_false h2,Bool.or_false]
theorem z429{first:Bool}{B E:AHeap→R}(hi:j≤u.length)(hen:first=true∨at? u j≠some 93)(hB:Wp (B H) Q):
  Wp (lett (fun (t37:Bool) (h69:AHeap)=>lett (fun (t43:Bool) (h72:AHeap)=>ifB t43 (B h72) (E h72)) fun j43=>ifB t37 (j43 true h69) (obind (z1a2 u (j:Int)) fun t41=>lett ((t41:Int) != 93) fun (t42:Bool)=>j43 t42 h69)) fun j37=>ifB first (j37 true H) (lett (((j:Nat):Int) == (z7b u)) fun (t36:Bool)=>j37 t36 H)) Q:=by
 cases first with
 |true=>
  repeat(with_reducible first|refine y5 (fun _ _=>?_)|(refine y8 ?_ ?_;rfl)|refine yd (by assumption) ?_)
  exact hB
 |false=>
  have hne:=hen.resolve_left (by simp);have ll:=z1b u
  rcases Nat.lt_or_ge j u.length with hlt|hge
  ·rw [at?_lt hlt] at hne
   have hx:=z30 (l:=u) hlt;have h93:(u[j]).toNat≠93:=fun hh=>hne (by rw[hh])
   repeat(first|(with_reducible first|refine y5 (fun _ _=>?_)|refine Wp.lett ?_|(apply Wp.obind;exact hx))|((with_reducible refine y8 ?_ ?_);((with_reducible first|apply zab|apply z28);omega))|((with_reducible refine y7 ?_ ?_);first|(with_reducible rfl)|((with_reducible apply z2e);omega))|(with_reducible refine yd (by assumption) ?_))
   exact hB
  ·repeat (first | (with_reducible first | refine y5 (fun _ _ => ?_) | refine Wp.lett ?_) | ((with_reducible refine y8 ?_ ?_); first | (with_reducible rfl) | ((with_reducible apply z28); omega)) | (with_reducible first | (refine y7 ?_ ?_; rfl) | refine yd (by assumption) ?_))
   exact hB
theorem z428{B E:AHeap→R}(hen:at? u j=some 93)(hE:Wp (E H) Q):
  Wp (lett (fun (t37:Bool) (h69:AHeap)=>lett (fun (t43:Bool) (h72:AHeap)=>ifB t43 (B h72) (E h72)) fun j43=>ifB t37 (j43 true h69) (obind (z1a2 u (j:Int)) fun t41=>lett ((t41:Int) != 93) fun (t42:Bool)=>j43 t42 h69)) fun j37=>ifB false (j37 true H) (lett (((j:Nat):Int) == (z7b u)) fun (t36:Bool)=>j37 t36 H)) Q:=by
 have ll:=z1b u;obtain⟨hlt,h93⟩:=at?_some hen;have hx:=z30 (l:=u) hlt;rw[h93] at hx
 repeat(first|(with_reducible first|refine y5 (fun _ _=>?_)|refine Wp.lett ?_|(apply Wp.obind;exact hx))|((with_reducible refine y7 ?_ ?_);first|(with_reducible rfl)|((with_reducible first|apply zc9|apply z2e);omega))|(with_reducible refine yd (by assumption) ?_))
 exact hE
theorem z22b{first:Bool}{self:Int→Bool→AHeap→R}{x z:z9e}(hu:u.length≤1000000)(hn:300<n)(hi:j≤u.length)(hen:first=true∨at? u j≠some 93)(hw:WordsOk w)(hz:z.2.2.length=6)(hz1:z.1=h.next)(M:Mem [] h H ((hb.next,z1c1,z121 w)::x::[z]))(hok:∀w' j' H',z94 u w j=.ok (w',j')→Mem [] h H' ((hb.next,z1c1,z121 w')::x::[z])→Wp (self ((j':Nat):Int) false H') Q)(hbad:∀q H',z94 u w j=.error q→Tch [] h H'→Q (.ret (z492 (.error q))) H'):
  Wp (z71 (z14 n (d+1)) n u h hb k25 self (j:Int) first H) Q:=by
 obtain⟨zb,zt,zc⟩:=z;dsimp only at hz hz1;subst hz1;have ll:=z1b u;unfold z71;refine z429 hi hen ?_;have hm1:=z454 (n:=n) (d:=d) (h:=H) hi hu;unfold z94 at hok hbad;cases hb1:z1cb u j with
 |error q=>
  rw[hb1] at hm1 hok hbad;refine Wp.callN hm1 ?_;unfold z40f
  repeat(first|(with_reducible first|refine Wp.lett ?_|(apply Wp.obind;first|exact z5 _ _|exact z6 _|exact za0 _ _|exact z9f _ _ _|exact z129 _ _ _ _)|(refine y8 ?_ ?_;exact Bool.not_false))|rw[z8])
  refine y29 M rfl hz rfl fun _ M2=>?_;refine y2e M2 rfl ?_;exact Wp.ret (hbad q _ rfl M2.tch)
 |ok cj=>
  obtain⟨c,j1⟩:=cj;obtain⟨c1,c2,c3⟩:=z13e hb1;rw[hb1] at hm1 hok hbad;dsimp only at hok hbad;refine Wp.callN hm1 ?_;unfold z40f;have ew:IntKind.i64.wrap (c:Int)=(c:Int):=z29c (by omega) (by omega)
  by_cases h45:at? u j1=some 45
  ·rw [if_pos h45] at hok hbad
   obtain⟨hlt1,hc45⟩:=at?_some h45;have hx1:=z30 (l:=u) hlt1;rw[hc45] at hx1;have hm2:=z454 (n:=n) (d:=d) (h:=H) (i:=j1+1) (by omega) hu;rw[show ((j1+1:Nat):Int)=(j1:Int)+1 by omega] at hm2;cases hb2:z1cb u (j1+1) with
   |error q=>
    rw[hb2] at hm2 hok hbad;unfold z40f at hm2
    repeat(first|(with_reducible first|refine y5 (fun _ _=>?_)|refine y33 (fun _ _=>?_))|((with_reducible refine yf ?_ ?_ ?_);omega;omega)|(with_reducible first|refine Wp.lett ?_|(apply Wp.obind;first|exact hx1|exact z5 _ _|exact z6 _|exact za0 _ _|exact z9f _ _ _|exact z129 _ _ _ _))|((with_reducible refine y8 ?_ ?_);first|(with_reducible exact Bool.not_false)|((with_reducible first|apply decide_eq_true|apply z28);omega))|(with_reducible first|(refine y7 ?_ ?_;exact Bool.not_true)|(apply Wp.callN;exact hm2)|refine yd (by assumption) ?_)|rw[z8])
    refine y29 M rfl hz rfl fun _ M2=>?_;refine y2e M2 rfl ?_;exact Wp.ret (hbad q _ rfl M2.tch)
   |ok ek=>
    obtain⟨e,k⟩:=ek;obtain⟨d1,d2,d3⟩:=z13e hb2;rw[hb2] at hm2 hok hbad;dsimp only at hok hbad;unfold z40f at hm2
    by_cases hlt:e<c
    ·rw [if_pos hlt] at hok hbad
     repeat(first|(with_reducible first|refine y5 (fun _ _=>?_)|refine y33 (fun _ _=>?_))|((with_reducible refine yf ?_ ?_ ?_);omega;omega)|(with_reducible first|refine Wp.lett ?_|(apply Wp.obind;first|exact hx1|exact z5 _ _|exact z6 _|exact za0 _ _|exact z9f _ _ _|exact z129 _ _ _ _))|((with_reducible refine y8 ?_ ?_);((with_reducible first|apply decide_eq_true|apply z28);omega))|(with_reducible first|(refine y7 ?_ ?_;exact Bool.not_true)|(apply Wp.callN;exact hm2)|refine yd (by assumption) ?_)|rw[z8])
     refine y29 M rfl hz rfl fun _ M2=>?_;refine y2e M2 rfl ?_;have:=hbad (k - 1) _ rfl M2.tch;rw[z492] at this;rw[show ((k - 1:Nat):Int)=(k:Int) - 1 by omega] at this;exact Wp.ret this
    ·rw [if_neg hlt] at hok hbad
     repeat(first|(with_reducible first|refine y12 (fun _ _=>?_)|refine y5 (fun _ _=>?_)|refine y33 (fun _ _=>?_))|((with_reducible refine yf ?_ ?_ ?_);omega;omega)|(with_reducible first|refine Wp.lett ?_|(apply Wp.obind;first|exact hx1|exact z5 _ _|exact z6 _|exact za0 _ _|exact z9f _ _ _|exact z129 _ _ _ _))|((with_reducible refine y8 ?_ ?_);((with_reducible first|apply decide_eq_true|apply z28);omega))|((with_reducible refine y7 ?_ ?_);first|(with_reducible exact Bool.not_true)|((with_reducible apply decide_eq_false);omega))|(with_reducible first|(apply Wp.callN;exact hm2)|(first|refine yd (by assumption) ?_|refine y51 (by assumption) ?_)))
     rename_i k108 ek108;have eh:(e:Int)=((c+(e+1 - c):Nat) - 1:Int):=by omega
     rw[eh];refine z255 (e+1 - c) n c w H (by omega) (by omega) hw M fun H' M2=>?_;refine y21 ek108 ?_;exact hok _ _ H' rfl M2
  ·rw [if_neg h45] at hok hbad
   rcases Nat.lt_or_ge j1 u.length with hlt1|hge1
   ·have hx1 := z30 (l := u) hlt1
    rw[at?_lt hlt1] at h45;have hc45:(u[j1]).toNat≠45:=fun hh=>h45 (by rw[hh]);have e45:(((u[j1]).toNat:Int) == 45)=false:=z2e (by omega)
    repeat(first|(with_reducible first|refine y12 (fun _ _=>?_)|refine y5 (fun _ _=>?_)|refine y33 (fun _ _=>?_))|((with_reducible refine yf ?_ ?_ ?_);omega;omega)|(with_reducible first|refine Wp.lett ?_|(apply Wp.obind;first|exact hx1|exact z5 _ _|exact z6 _|exact za0 _ _|exact z9f _ _ _|exact z129 _ _ _ _))|((with_reducible refine y8 ?_ ?_);((with_reducible first|apply decide_eq_true|apply z28);omega))|(with_reducible first|(refine y7 ?_ ?_;first|assumption|exact Bool.not_true)|(first|refine yd (by assumption) ?_|refine y51 (by assumption) ?_)))
    rename_i k108 ek108;refine Wp.eqx (y:=z9c hb ((c+1:Nat) - 1:Int) k108 n (c:Int) H) (by rw[show ((c+1:Nat) - 1:Int)=(c:Int) by omega]) ?_;refine z255 1 n c w H (by omega) (by omega) hw M fun H' M2=>?_;refine y21 ek108 ?_;exact hok _ _ H' rfl M2
   ·repeat (first | (with_reducible first | refine y12 (fun _ _ => ?_) | refine y5 (fun _ _ => ?_) | refine y33 (fun _ _ => ?_)) | ((with_reducible refine yf ?_ ?_ ?_); omega; omega) | (with_reducible first | refine Wp.lett ?_ | (apply Wp.obind; first | exact z5 _ _ | exact z6 _ | exact za0 _ _ | exact z9f _ _ _ | exact z129 _ _ _ _)) | ((with_reducible refine y7 ?_ ?_); first | (with_reducible first | rfl | exact Bool.not_true) | ((with_reducible apply decide_eq_false); omega)) | (with_reducible first | refine yd (by assumption) ?_ | refine y51 (by assumption) ?_))
    rename_i k108 ek108;refine Wp.eqx (y:=z9c hb ((c+1:Nat) - 1:Int) k108 n (c:Int) H) (by rw[show ((c+1:Nat) - 1:Int)=(c:Int) by omega]) ?_;refine z255 1 n c w H (by omega) (by omega) hw M fun H' M2=>?_;refine y21 ek108 ?_;exact hok _ _ H' rfl M2
theorem class_loop{x z:z9e}(hu:u.length≤1000000)(hn:300<n)(hz:z.2.2.length=6)(hz1:z.1=h.next){r:Except Nat (List Nat×Nat)}(k:LoopP u w j r):WordsOk w→j≤u.length→∀{f:Nat} {H:AHeap},u.length - j<f→Mem [] h H ((hb.next,z1c1,z121 w)::x::[z])→
  (∀w' j' H',r=.ok (w',j'+1)→j'<u.length→WordsOk w'→Mem [] h H' ((hb.next,z1c1,z121 w')::x::[z])→Wp (k25 ((j':Nat):Int) H') Q)→(∀q H',r=.error q→Tch [] h H'→Q (.ret (z492 (.error q))) H')→
  Wp (z85 (z14 n (d+1)) n u h hb k25 f (j:Int) false H) Q:=by
 induction k with
 |done ht=>
  intro hw hi f H hf M hok hbad;obtain⟨hlt,_⟩:=at?_some ht
  cases f with
  |zero=>omega
  |succ f=>
   rw[zb6];unfold z71;exact z428 ht (hok _ _ H rfl hlt hw M)
 |bad ht hm=>
  intro hw hi f H hf M hok hbad
  cases f with
  |zero=>omega
  |succ f=>
   rw[zb6];refine z22b hu hn hi (.inr ht) hw hz hz1 M (fun w' j' H' e=>?_) (fun q H' e t=>?_)
   ·rw [hm] at e
    cases e
   ·rw [hm] at e
    cases e
    exact hbad _ H' rfl t
 |more ht hm m ih=>
  intro hw hi f H hf M hok hbad
  cases f with
  |zero=>omega
  |succ f=>
   rw[zb6];refine z22b hu hn hi (.inr ht) hw hz hz1 M (fun w' j' H' e M2=>?_) (fun q H' e t=>?_)
   ·rw [hm] at e
    cases e
    obtain⟨m1,m2,m3⟩:=z165 hw hm;exact ih m1 m3 (by omega) M2 hok hbad
   ·rw [hm] at e
    cases e
end
theorem set3_scal(r:Except Nat (List Nat×Nat)):(z492 r).scal=true:=by
 cases r with
 |error q=>rfl
 |ok wj=>
  obtain⟨w,j⟩:=wj;show ((AV.agg (z25 2 w .nsl)).scal&&_)=true;rw[z19d];rfl
section
variable {n d i j:Nat}{h H h0 hb hx:AHeap}{u:z11}{Q:ARes→AHeap→Prop}{S:List Nat}{ys:List z9e}{w:List Nat}{k25:Int→AHeap→R}
theorem z2ef{x z:z9e}(hu:u.length≤1000000)(hn:300<n)(hn2:u.length+5<n)(hi:i≤u.length)(hz:z.2.2.length=6)(hz1:z.1=h.next){r:Except Nat (List Nat×Nat)}(k:SetP u i r)(M:Mem [] h H ((hb.next,z1c1,z121 zeroW)::x::[z]))(hok:∀w' j' H',z21d u i (.ok (w',j'+1))=r→j'<u.length→WordsOk w'→Mem [] h H' ((hb.next,z1c1,z121 w')::x::[z])→Wp (k25 ((j':Nat):Int) H') Q)(hbad:∀q H',r=.error q→Tch [] h H'→Q (.ret (z492 (.error q))) H'):
  Wp (z85 (z14 n (d+1)) n u h hb k25 n ((setB u i:Nat):Int) true H) Q:=by
 obtain⟨f,hf⟩:∃f,n=f+1:=⟨n - 1,by omega⟩;obtain⟨s1,s2⟩:=z29e (a:=u) hi;have key:∀self:Int→Bool→AHeap→R,(∀w' j' H',z94 u zeroW (setB u i)=.ok (w',j')→Mem [] h H' ((hb.next,z1c1,z121 w')::x::[z])→Wp (self ((j':Nat):Int) false H') Q)→(∀q H',z94 u zeroW (setB u i)=.error q→Tch [] h H'→Q (.ret (z492 (.error q))) H')→Wp (z71 (z14 n (d+1)) n u h hb k25 self ((setB u i:Nat):Int) true H) Q:=fun self=>z22b hu hn s2 (.inl rfl) z3b hz hz1 M
 have e:z85 (z14 n (d+1)) n u h hb k25 n ((setB u i:Nat):Int) true H=z71 (z14 n (d+1)) n u h hb k25 (z85 (z14 n (d+1)) n u h hb k25 f) ((setB u i:Nat):Int) true H:=by
  conv=>lhs;arg 7;rw[hf]
  rw[zb6]
 rw[e]
 cases k with
 |bad hm=>
  refine key _ (fun w' j' H' e M2=>?_) fun q H' e t=>?_
  ·rw [hm] at e
   cases e
  ·rw [hm] at e
   cases e
   exact hbad _ H' rfl t
 |set hm m=>
  rename_i w1 j1 r1;obtain⟨m1,m2,m3⟩:=z165 z3b hm;refine key _ (fun w' j' H' e M2=>?_) fun q H' e t=>?_
  ·rw [hm] at e
   cases e
   refine class_loop hu hn hz hz1 m m1 m3 (by omega) M2 (fun w2 j2 H2 e2=>?_) fun q H2 e2 t=>?_
   ·subst e2
    exact hok w2 j2 H2 rfl
   ·subst e2
    exact hbad q H2 rfl t
  ·rw [hm] at e
   cases e
theorem class_w(hu:u.length≤1000000)(hn:300<n)(hn2:u.length+5<n)(hi:i≤u.length){r:Except Nat (List Nat×Nat)}(k:SetP u i r):z14 n (d+2) 68 [z12 u,.int .i64 (i:Int)] h=some (.ret (z492 r),h):=by
 apply Wp.eq;rw[z345]
 suffices hK:Wp (zfb (z14 n (d+1)) n u i h) fun v h'=>v=.ret (z492 r)∧Tch [] h h' from Wp.gc (hK.mono fun v h' ⟨e,t⟩=>⟨t.above,by rw[e];exact set3_scal r,e,rfl⟩)
 unfold zfb;have Mx:=Mem.nil [] h;have ll:=z1b u
 -- what comes behind the members
 have fin:∀{nt:Bool} {hb hx:AHeap} {w':List Nat} {j':Nat} {H':AHeap} {xc:List AV},nt=decide (at? u i=some 94)→z21d u i (.ok (w',j'+1))=r→j'<u.length→WordsOk w'→xc=z25 2 zeroW .nsl→Mem [] h H' ((hb.next,z1c1,z121 w')::(hx.next,z17,xc)::[(h.next,z17,z25 0 zeroW .nsl)])→
   Wp (zbf hx nt hb (fun h32=>obind (z15 h32 6 (z7 hx)) fun t116=>lett (IntKind.i64.wrap (((j':Nat):Int)+1)) fun (t118:Int)=>obind (z16 h32 6 t116 (z7 h)) fun h36=>obind (z15 h36 6 (z7 h)) fun w4=>some (.ret (.tup [.agg w4,.int .i64 t118,.bool true]),h36)) n 0 H') fun v h'=>v=.ret (z492 r)∧Tch [] h h':=by
  intro nt hb hx w' j' H' xc hnt hr hj hw exc M;subst exc;refine z2c2 (k:=0) (v:=zeroW) hw 256 n H' (by omega) rfl z3b (fun c hc=>?_) M fun H2 v hv hbit M2=>?_
  ·rw[z374,decide_eq_false (Nat.not_lt_zero _),Bool.false_and]
  have ev:z492 r=.tup [.agg (z25 2 v .nsl),.int .i64 (((j':Nat):Int)+1),.bool true]:=by
   rw[←hr];unfold z21d;rw[z492]
   have:v=if at? u i=some 94 then z12e w' else w':=by
    by_cases h94:at? u i=some 94
    ·rw [if_pos h94]
     rw[decide_eq_true h94] at hnt;subst hnt;refine z416 hv (z1f8 hw) fun c hc=>?_;rw[hbit c hc,z4a8 hw hc]
     cases inW w' c<;>rfl
    ·rw [if_neg h94]
     rw[decide_eq_false h94] at hnt;subst hnt;refine z416 hv hw fun c hc=>?_;rw[hbit c hc]
     cases inW w' c<;>rfl
   rw[this];rfl
  rw[ev];rw[z8,z8];have hl:=zf0 (kv:=.nsl) (op:=2) hv;refine y1a M2 hl ?_
  repeat(((with_reducible refine yf ?_ ?_ ?_);omega;omega))
  refine y29 M2 hl rfl (z57 rfl) fun _ M3=>?_;refine y2e M3 hl ?_;exact Wp.ret ⟨rfl,M3.tch⟩
 by_cases h94:at? u i=some 94
 ·obtain ⟨hlt, h94b⟩ := at?_some h94
  have hx:=z30 (l:=u) hlt;rw[h94b] at hx
  have es:((i:Nat):Int)+1=((setB u i:Nat):Int):=by
   unfold setB;rw[if_pos h94];omega
  repeat(first|((with_reducible apply y11 Mx);rfl;rfl;(rfl);clear Mx;intro _ Mx)|((with_reducible apply yc Mx);clear Mx;intro _ Mx)|(with_reducible refine y5 (fun _ _=>?_))|((with_reducible refine yf ?_ ?_ ?_);omega;omega)|(with_reducible first|refine Wp.lett ?_|(apply Wp.obind;exact hx))|((with_reducible refine y8 ?_ ?_);((with_reducible first|apply decide_eq_true|apply z28);omega))|(with_reducible refine yd (by assumption) ?_)|rw[z8])
  rename_i k25 ek25;rw[←bools0] at Mx;rw[es];refine z2ef hu hn hn2 hi rfl rfl k Mx (fun w' j' H' hr hj hw M2=>?_) fun q H' e t=>⟨by rw[e],t⟩;refine yd ek25 ?_;exact fin (by rw[decide_eq_true h94];rfl) hr hj hw rfl M2
 ·have es : ((i : Nat) : Int) = ((setB u i : Nat) : Int) := by
   unfold setB;rw[if_neg h94]
  rcases Nat.lt_or_ge i u.length with hlt|hge
  ·have hx := z30 (l := u) hlt
   have hne:(u[i]).toNat≠94:=fun hh=>h94 (by rw[at?_lt hlt,hh]);have e94:(((u[i]).toNat:Int) == 94)=false:=z2e (by omega)
   repeat(first|((with_reducible apply y11 Mx);rfl;rfl;(rfl);clear Mx;intro _ Mx)|((with_reducible apply yc Mx);clear Mx;intro _ Mx)|(with_reducible first|refine y5 (fun _ _=>?_)|refine Wp.lett ?_|(apply Wp.obind;exact hx))|((with_reducible refine y8 ?_ ?_);((with_reducible first|apply decide_eq_true|apply z28);omega))|(with_reducible first|(refine y7 ?_ ?_;assumption)|refine yd (by assumption) ?_)|rw[z8])
   rename_i k25 ek25;rw[←bools0] at Mx;have ek26:=ek25;rw[es];refine z2ef hu hn hn2 hi rfl rfl k Mx (fun w' j' H' hr hj hw M2=>?_) fun q H' e t=>⟨by rw[e],t⟩;refine yd ek26 ?_;exact fin (by rw[decide_eq_false h94];exact e94) hr hj hw rfl M2
  ·repeat (first | ((with_reducible apply y11 Mx); rfl; rfl; (rfl); clear Mx; intro _ Mx) | ((with_reducible apply yc Mx); clear Mx; intro _ Mx) | (with_reducible first | refine y5 (fun _ _ => ?_) | refine Wp.lett ?_) | ((with_reducible refine y7 ?_ ?_); first | (with_reducible rfl) | ((with_reducible apply decide_eq_false); omega)) | (with_reducible refine yd (by assumption) ?_) | rw [z8])
   rename_i k25 ek25;rw[←bools0] at Mx;rw[es];refine z2ef hu hn hn2 hi rfl rfl k Mx (fun w' j' H' hr hj hw M2=>?_) fun q H' e t=>⟨by rw[e],t⟩;refine yd ek25 ?_;exact fin (by rw[decide_eq_false h94]) hr hj hw rfl M2
def RawN(h:AHeap):Res→ARes→AHeap→Prop
 | .ok (t,j),v,h'=>∃c T,v=.ret (.tup [.agg c,.int .i64 (j:Int),.bool true])∧NodeT t c T∧Mem [] h h' T
 | .error q,v,h'=>v=.ret (.tup [.agg (z25 0 zeroW .nsl),.int .i64 (q:Int),.bool false])∧Tch [] h h'
def OutN(h:AHeap)(x:R):Res→Prop
 | .ok (t,j)=>∃c T h',x=some (.ret (.tup [.agg c,.int .i64 (j:Int),.bool true]),h')∧NodeT t c T∧Mem [] h h' T
 | .error q=>x=some (.ret (.tup [.agg (z25 0 zeroW .nsl),.int .i64 (q:Int),.bool false]),h)
theorem OutN.gc{r:Res}{x:R}(k:Wp x (RawN h r)):OutN h (gcR h x) r:=by
 cases r with
 |error q=>
  apply Wp.eq;exact Wp.gc (k.mono fun v h' ⟨e,t⟩=>⟨t.above,by rw[e];rfl,e,rfl⟩)
 |ok tj=>
  obtain⟨t,j⟩:=tj;obtain⟨v,h',e,c,T,rfl,kt,M⟩:=k
  suffices hK:Wp (gcR h x) fun r h'=>∃T,r=.ret (.tup [.agg c,.int .i64 (j:Int),.bool true])∧NodeT t c T∧Mem [] h h' T by
   obtain⟨_,h',e,T,rfl,k1,k2⟩:=hK;exact⟨c,T,h',e,k1,k2⟩
  refine y4a ⟨_,h',e,⟨T,rfl,kt,M⟩,fun _ hl=>?_⟩
  have h1:y1e h.next c=true:=by
   have:(y1e h.next c&&(true&&(true&&y1e h.next [])))=true:=hl;rw[Bool.and_eq_true] at this;exact this.1
  have hT:T=[]:=kt.low (fun y hy=>(M.row y hy).2.2.resolve_left (by simp)) h1;subst hT;exact⟨[],rfl,kt,Mem.nil _ _⟩
theorem y3f{x:R}{t:Nd}{rs:List z9e}{k:AV→AHeap→R}(hx:OutN h x (.ok (t,j)))(M:Mem S h0 h rs)(hk:∀c T h',NodeT t c T→Mem S h0 h' (rs++T)→Wp (k (.tup [.agg c,.int .i64 (j:Int),.bool true]) h') Q):Wp (callN x k) Q:=by
 obtain⟨c,T,h',e,kt,M'⟩:=hx;exact Wp.callN e (hk c T h' kt (y31 (xs:=[]) (ys:=[]) M M'))
theorem y46{x:R}{q:Nat}{k:AV→AHeap→R}(hx:OutN h x (.error q))(hk:Wp (k (.tup [.agg (z25 0 zeroW .nsl),.int .i64 (q:Int),.bool false]) h) Q):Wp (callN x k) Q:=Wp.callN hx hk
end
noncomputable def bad3(q:Nat):AV:=.tup [.agg (z25 0 zeroW .nsl),.int .i64 (q:Int),.bool false]
def z20c(u:z11)(n i:Nat)(r:Res):Prop:=∀{D:Nat} {h:AHeap},3*(u.length - i)+5≤D→z7a z17 h.ex=false→OutN h (z14 n D 58 [z12 u,.int .i64 (i:Int)] h) r
def z486(u:z11)(n:Nat)(l:List Nd)(i:Nat)(r:Res):Prop:=∀{D f:Nat} {h H:AHeap} {kc:List (List AV)} {kv:AV} {T0 T1:List z9e} {z:List AV} {k7:Int→AV→AHeap→R} {Q:ARes→AHeap→Prop},3*(u.length - i)+5≤D→u.length - i<f→GrowT z17 6 kc kv T0→KidsT l kc T1→z7a z17 h.ex=false→l.length≤i→z.length=6→Mem [] h H ((h.next,z17,z)::(T0++T1))→
 (∀l' j kc kv T0 T1 H',r=.ok (z1a0 3 l',j)→GrowT z17 6 kc kv T0→KidsT l' kc T1→Mem [] h H' ((h.next,z17,z)::(T0++T1))→Wp (k7 ((j:Nat):Int) kv H') Q)→
 (∀q H',r=.error q→Tch [] h H'→Q (.ret (bad3 q)) H')→Wp (zce (z14 n D) u h k7 f (i:Int) kv H) Q
def AltM(u:z11)(n:Nat)(l:List Nd)(i:Nat)(r:Res):Prop:=∀{D f:Nat} {h H:AHeap} {kc:List (List AV)} {kv:AV} {T0 T1:List z9e} {z:List AV},3*(u.length - i)+6≤D→u.length - i<f→GrowT z17 6 kc kv T0→KidsT l kc T1→z7a z17 h.ex=false→l.length≤i→z.length=6→Mem [] h H ((h.next,z17,z)::(T0++T1))→
 Wp (z117 (z14 n D) u h f (i:Int) kv H) (RawN h r)
section
variable {n i j q:Nat}{u:z11}{l:List Nd}{r:Res}{t:Nd}{w:List Nat}
theorem z445(hu:u.length≤1000000)(hn2:u.length+5<n){D:Nat}{h:AHeap}(k:z486 u n [] i r)(hD:3*(u.length - i)+6≤D)(hx:z7a z17 h.ex=false):OutN h (z14 n D 46 [z12 u,.int .i64 (i:Int)] h) r:=by
 obtain⟨D,rfl⟩:∃D',D=D'+1:=⟨D - 1,by omega⟩;rw[z3f2];refine OutN.gc ?_;unfold z197;refine yc (Mem.nil [] h) fun h1 M1=>?_
 ((with_reducible refine y33 (fun _ _=>?_)))
 rename_i k7 ek7;refine k (by omega) (by omega) (GrowT.nil _ _) .nil hx (Nat.zero_le _) rfl M1 (fun l' j kc kv T0 T1 H' hr g ks M2=>?_) fun q H' hr ht=>?_
 ·subst hr
  refine y51 ek7 ?_;obtain⟨D,rfl⟩:∃D',D=D'+1:=⟨D - 1,by omega⟩;obtain⟨c,T,h2,e2,kt,M3⟩:=z487 (n:=n) (d:=D) 3 (xs:=[_]) M2 g ks;refine Wp.callN e2 (Wp.obind (z13 _) ?_);rw[z8];refine y11 M3 kt.len rfl kt.one fun h3 M4=>?_;refine y14 M4 kt.len ?_;exact Wp.ret ⟨c,T,rfl,kt,M4.pop⟩
 ·subst hr
  exact⟨rfl,ht⟩
theorem z257(hn2:u.length+5<n){D:Nat}{h:AHeap}(k:AltM u n [] i r)(hD:3*(u.length - i)+7≤D)(hx:z7a z17 h.ex=false):OutN h (z14 n D 30 [z12 u,.int .i64 (i:Int)] h) r:=by
 obtain⟨D,rfl⟩:∃D',D=D'+1:=⟨D - 1,by omega⟩;rw[z3a2];refine OutN.gc ?_;unfold z164;refine yc (Mem.nil [] h) fun h1 M1=>?_;exact k (by omega) (by omega) (GrowT.nil _ _) .nil hx (Nat.zero_le _) rfl M1
theorem alt_bad(hu:u.length≤1000000)(hn2:u.length+5<n)(k:z486 u n [] i (.error q)):AltM u n l i (.error q):=by
 intro D f h H kc kv T0 T1 z hD hf g ks hx hl hz M;obtain⟨f,rfl⟩:∃f',f=f'+1:=⟨f - 1,by omega⟩;have hc:=z445 hu hn2 (h:=H) k hD (by rw[M.ex];exact hx);rw[z116];unfold zc0;refine y46 hc ?_;have Mx:=M;have hb:(z25 0 zeroW .nsl).length=6:=rfl
 repeat(first|(with_reducible apply Wp.obind;first|exact z5 _ _|exact z6 _)|((with_reducible apply y11 Mx);rfl;rfl;(rfl);clear Mx;intro _ Mx)|((with_reducible apply yc Mx);clear Mx;intro _ Mx)|(with_reducible first|refine Wp.lett ?_|(apply Wp.obind;first|exact z13 _|exact za0 _ _|exact z9f _ _ _|exact z129 _ _ _ _)|(refine y8 ?_ ?_;exact Bool.not_false))|rw[z8])
 refine y1c Mx rfl hz rfl fun _ M2=>?_;refine y1a M2 rfl ?_;exact Wp.ret ⟨rfl,M2.tch⟩
theorem z47f{D:Nat}{h H:AHeap}{kc:List (List AV)}{kv:AV}{T0 T1:List z9e}{z:List AV}{Q:ARes→AHeap→Prop}(hu:u.length≤1000000)(hn2:u.length+5<n)(k:z486 u n [] i (.ok (t,j)))(hD:3*(u.length - i)+6≤D)(g:GrowT z17 6 kc kv T0)(ks:KidsT l kc T1)(hx:z7a z17 h.ex=false)(hl:l.length≤1000000)(M:Mem [] h H ((h.next,z17,z)::(T0++T1)))(self:Int→AV→AHeap→R)(hk:∀kc' kv' T0' T1' H',GrowT z17 6 kc' kv' T0'→KidsT (l++[t]) kc' T1'→Mem [] h H' ((h.next,z17,z)::(T0'++T1'))→Wp (lett (((j:Nat):Int) == (z7b u)) fun (t29:Bool)=>
  lett (fun (t35:Bool) (h_39:AHeap)=>
   ifB t35
   (
    callN (z14 n D 44 [.int .i64 4,kv'] h_39) fun r37 h_43=>
    obind (z4f r37) fun t37=>
    obind (z16 h_43 6 t37 (z7 h)) fun h_46=>
    obind (z15 h_46 6 (z7 h)) fun w4_49=>
    some (.ret (.tup [.agg w4_49,.int .i64 ((j:Nat):Int),.bool true]),h_46))
   (
    lett (IntKind.i64.wrap (((j:Nat):Int)+1)) fun (t40:Int)=>
    self t40 kv' h_39)) fun j35=>
  ifB t29
  (
   j35 true H')
  (
   obind (z1a2 u ((j:Nat):Int)) fun t33=>
   lett ((t33:Int) != 124) fun (t34:Bool)=>
   j35 t34 H')) Q):Wp (zc0 (z14 n D) u h self (i:Int) kv H) Q:=by
 have hc:=z445 hu hn2 (h:=H) k hD (by rw[M.ex];exact hx);unfold zc0;refine y3f hc M fun c T h2 kt M2=>?_;refine Wp.obind (za0 _ _) (Wp.obind (z13 _) (Wp.obind (z9f _ _ _) (Wp.obind (z5 _ _) (Wp.obind (z129 _ _ _ _) (Wp.obind (z6 _) ?_)))));refine yc M2 fun h3 M3=>?_;rw[z8,z8];refine y11 M3 kt.len rfl kt.one fun h4 M4=>?_;refine Wp.lett (y7 rfl ?_);refine y14 M4 kt.len ?_;refine y30 M4 g ks kt hx (by omega) fun kv' h' T0' g' ks' M5=>?_;have:=hk _ kv' T0' _ h' g' ks' M5.pop;rw[z8] at this;exact this
theorem alt_last(hu:u.length≤1000000)(hn2:u.length+5<n)(hj:j≤u.length)(k:z486 u n [] i (.ok (t,j)))(ne:at? u j≠some 124)(hi:i≤u.length):AltM u n l i (.ok (z1a0 4 (l++[t]),j)):=by
 intro D f h H kc kv T0 T1 z hD hf g ks hx hl hz M;obtain⟨f,rfl⟩:∃f',f=f'+1:=⟨f - 1,by omega⟩;rw[z116];refine z47f hu hn2 k hD g ks hx (by omega) M _ fun kc' kv' T0' T1' H' g' ks' M2=>?_;have ll:=z1b u;obtain⟨D,rfl⟩:∃D',D=D'+1:=⟨D - 1,by omega⟩;obtain⟨c,T,h2,e2,kt,M3⟩:=z487 (n:=n) (d:=D) 4 (xs:=[_]) M2 g' ks'
 rcases Nat.lt_or_ge j u.length with hlt|hge
 ·have hx1 := z30 (l := u) hlt
  rw[at?_lt hlt] at ne;have hne:(u[j]).toNat≠124:=fun hh=>ne (by rw[hh])
  repeat(first|(with_reducible first|refine y5 (fun _ _=>?_)|refine Wp.lett ?_|(apply Wp.obind;exact hx1))|((with_reducible refine y8 ?_ ?_);((with_reducible first|apply zab|apply z28);omega))|((with_reducible refine y7 ?_ ?_;apply z2e);omega)|(with_reducible refine yd (by assumption) ?_)|rw[z8])
  refine Wp.callN e2 (Wp.obind (z13 _) ?_);refine y11 M3 kt.len hz kt.one fun h3 M4=>?_;refine y14 M4 kt.len ?_;exact Wp.ret ⟨c,T,rfl,kt,M4.pop⟩
 ·repeat (first | (with_reducible first | refine y5 (fun _ _ => ?_) | refine Wp.lett ?_) | ((with_reducible refine y8 ?_ ?_); first | (with_reducible rfl) | ((with_reducible apply z28); omega)) | (with_reducible refine yd (by assumption) ?_) | rw [z8])
  refine Wp.callN e2 (Wp.obind (z13 _) ?_);refine y11 M3 kt.len hz kt.one fun h3 M4=>?_;refine y14 M4 kt.len ?_;exact Wp.ret ⟨c,T,rfl,kt,M4.pop⟩
theorem alt_more(hu:u.length≤1000000)(hn2:u.length+5<n)(hij:i≤j)(k:z486 u n [] i (.ok (t,j)))(ne:at? u j=some 124)(hi:i≤u.length)(m:AltM u n (l++[t]) (j+1) r):AltM u n l i r:=by
 intro D f h H kc kv T0 T1 z hD hf g ks hx hl hz M;obtain⟨f,rfl⟩:∃f',f=f'+1:=⟨f - 1,by omega⟩;rw[z116];refine z47f hu hn2 k hD g ks hx (by omega) M _ fun kc' kv' T0' T1' H' g' ks' M2=>?_;have ll:=z1b u;obtain⟨hlt,h124⟩:=at?_some ne;have hx1:=z30 (l:=u) hlt;rw[h124] at hx1
 repeat(first|(with_reducible refine y5 (fun _ _=>?_))|((with_reducible refine yf ?_ ?_ ?_);omega;omega)|(with_reducible first|refine Wp.lett ?_|(apply Wp.obind;exact hx1))|((with_reducible refine y7 ?_ ?_);((with_reducible first|apply zc9|apply z2e);omega))|(with_reducible refine yd (by assumption) ?_))
 rw[show (j:Int)+1=((j+1:Nat):Int) by omega];exact m (by omega) (by omega) g' ks' hx (by simp;omega) hz M2
theorem row_stop(hi:i≤u.length)(s:z16b u i):z486 u n l i (.ok (z1a0 3 l,i)):=by
 intro D f h H kc kv T0 T1 z k7 Q hD hf g ks hx hl hz M hok hbad;obtain⟨f,rfl⟩:∃f',f=f'+1:=⟨f - 1,by omega⟩;have hfin:=hok l i kc kv T0 T1 H rfl g ks M;have ll:=z1b u;rw[zef];unfold zaf
 rcases s with hc|hc|hc
 ·have := at?_none hc hi
  repeat(first|(with_reducible first|refine y5 (fun _ _=>?_)|refine Wp.lett ?_)|((with_reducible refine y7 ?_ ?_);first|(with_reducible rfl)|((with_reducible apply decide_eq_false);omega))|(with_reducible refine yd (by assumption) ?_))
  exact hfin
 ·obtain ⟨hlt, h124⟩ := at?_some hc
  have hx1:=z30 (l:=u) hlt;rw[h124] at hx1
  repeat(first|(with_reducible first|refine y5 (fun _ _=>?_)|refine Wp.lett ?_|(apply Wp.obind;exact hx1))|((with_reducible refine y8 ?_ ?_);((with_reducible first|apply decide_eq_true|apply zab);omega))|((with_reducible refine y7 ?_ ?_);first|(with_reducible rfl)|((with_reducible apply zc9);omega))|(with_reducible refine yd (by assumption) ?_))
  exact hfin
 ·obtain ⟨hlt, h41⟩ := at?_some hc
  have hx1:=z30 (l:=u) hlt;rw[h41] at hx1
  repeat(first|(with_reducible first|refine y5 (fun _ _=>?_)|refine Wp.lett ?_|(apply Wp.obind;exact hx1))|((with_reducible refine y8 ?_ ?_);((with_reducible first|apply decide_eq_true|apply zab);omega))|((with_reducible refine y7 ?_ ?_;apply zc9);omega)|(with_reducible refine yd (by assumption) ?_))
  exact hfin
theorem go_in(s:¬z16b u i):∃h:i<u.length,(u[i]).toNat≠124∧(u[i]).toNat≠41:=by
 rcases Nat.lt_or_ge i u.length with h|h
 ·refine ⟨h, fun hh => s (.inr (.inl ?_)), fun hh => s (.inr (.inr ?_))⟩
  ·rw[at?_lt h,hh]
  ·rw[at?_lt h,hh]
 ·exact absurd (.inl (at?_ge h)) s
theorem row_bad(s:¬z16b u i)(k:z20c u n i (.error q)):z486 u n l i (.error q):=by
 intro D f h H kc kv T0 T1 z k7 Q hD hf g ks hx hl hz M hok hbad;obtain⟨f,rfl⟩:∃f',f=f'+1:=⟨f - 1,by omega⟩;have ll:=z1b u;obtain⟨hlt,n1,n2⟩:=go_in s;have hx1:=z30 (l:=u) hlt;have e41:(((u[i]).toNat:Int) != 41)=true:=zab (by omega);rw[zef];unfold zaf
 repeat(first|(with_reducible first|refine y5 (fun _ _=>?_)|refine Wp.lett ?_|(apply Wp.obind;exact hx1))|((with_reducible refine y8 ?_ ?_);first|(with_reducible assumption)|((with_reducible first|apply decide_eq_true|apply zab);omega))|(with_reducible refine yd (by assumption) ?_)|rw[z8])
 refine y46 (k hD (by rw[M.ex];exact hx)) ?_;have Mx:=M
 repeat(first|(with_reducible apply Wp.obind;first|exact z5 _ _|exact z6 _)|((with_reducible apply y11 Mx);rfl;rfl;(rfl);clear Mx;intro _ Mx)|((with_reducible apply yc Mx);clear Mx;intro _ Mx)|(with_reducible first|refine Wp.lett ?_|(apply Wp.obind;first|exact z13 _|exact za0 _ _|exact z9f _ _ _|exact z129 _ _ _ _)|(refine y8 ?_ ?_;exact Bool.not_false))|rw[z8])
 refine y1c Mx rfl hz rfl fun _ M2=>?_;refine y1a M2 rfl ?_;exact Wp.ret (hbad q _ rfl M2.tch)
end
theorem sign_pos{u:z11}{j:Nat}(h:signAt u j≠0):∃c,at? u j=some c∧((c=42∧signAt u j=5)∨(c=43∧signAt u j=6)∨(c=63∧signAt u j=7)):=by
 unfold signAt at h ⊢;cases hc:at? u j with
 |none=>
  rw[hc] at h;exact absurd rfl h
 |some c=>
  rw[hc] at h;refine⟨c,rfl,?_⟩;dsimp only at h ⊢;unfold z318 at h ⊢
  split at h
  ·exact .inl ⟨rfl,rfl⟩
  ·exact .inr (.inl ⟨rfl,rfl⟩)
  ·exact .inr (.inr ⟨rfl,rfl⟩)
  ·exact absurd rfl h
theorem sign_zero{u:z11}{j:Nat}(h:signAt u j=0){c:Nat}(hc:at? u j=some c):c≠42∧c≠43∧c≠63:=by
 rw[z1aa hc] at h;refine⟨fun hh=>?_,fun hh=>?_,fun hh=>?_⟩<;>subst hh<;>exact absurd h (by decide)
section
variable {n i j q:Nat}{u:z11}{l:List Nd}{r:Res}{t:Nd}{w:List Nat}
theorem z443{D:Nat}{h H:AHeap}{kv:AV}{T0 T1:List z9e}{z:List AV}{Q:ARes→AHeap→Prop}{k7:Int→AV→AHeap→R}(s:¬z16b u i)(k:z20c u n i (.ok (t,j)))(hD:3*(u.length - i)+5≤D)(hx:z7a z17 h.ex=false)(M:Mem [] h H ((h.next,z17,z)::(T0++T1)))(self:Int→AV→AHeap→R)(hk:∀c T q H',NodeT t c T→Mem [] h H' ((q,z17,c)::(((h.next,z17,z)::(T0++T1))++T))→Wp (lett (decide (((j:Nat):Int)<(z7b u))) fun (t43:Bool)=>
     lett (fun (t11:Int) (h_58:AHeap)=>
      lett (decide (t11>0)) fun (t54:Bool)=>
      lett (fun (t1_63:Int) (h_64:AHeap)=>
       obind (z15 h_64 6 (.ptr q 0)) fun t62=>
       outK (z122 Tryd.prog h_64 zf5 1 [(0,.agg t62)]) fun v63 h_66=>
       outK (z5e Tryd.prog h_66 zf5 zf5 kv v63) fun v64 h_68=>
       self t1_63 v64 h_68) fun k62=>
      ifB t54
      (
       obind (z15 h_58 6 (.ptr q 0)) fun t56=>
       outK (z122 Tryd.prog h_58 zf5 1 [(0,.agg t56)]) fun v57 h_72=>
       obind (z27a Tryd.prog z17 [(0,.int .i64 t11),(2,v57)]) fun t58=>
       obind (z16 h_72 6 t58 (.ptr q 0)) fun h_75=>
       lett (IntKind.i64.wrap (((j:Nat):Int)+1)) fun (t60:Int)=>
       k62 t60 h_75)
      (
       k62 ((j:Nat):Int) h_58)) fun k57=>
     ifB t43
     (
      obind (z1a2 u ((j:Nat):Int)) fun t46=>
      lett ((t46:Int) == 42) fun (t48:Bool)=>
      lett (fun (t11_84:Int) (h_85:AHeap)=>
       k57 t11_84 h_85) fun k83=>
      ifB t48
      (
       k83 5 H')
      (
       lett ((t46:Int) == 43) fun (t50:Bool)=>
       lett (fun (t11_89:Int) (h_90:AHeap)=>
        k83 t11_89 h_90) fun k88=>
       ifB t50
       (
        k88 6 H')
       (
        lett ((t46:Int) == 63) fun (t52:Bool)=>
        lett (fun (t11_94:Int) (h_95:AHeap)=>
         k88 t11_94 h_95) fun k93=>
        ifB t52
        (
         k93 7 H')
        (
         k93 0 H'))))
     (
      k57 0 H')) Q):Wp (zaf (z14 n D) u h k7 self (i:Int) kv H) Q:=by
 have ll:=z1b u;obtain⟨hlt,n1,n2⟩:=go_in s;have hx1:=z30 (l:=u) hlt;have e41:(((u[i]).toNat:Int) != 41)=true:=zab (by omega);unfold zaf
 repeat(first|(with_reducible first|refine y5 (fun _ _=>?_)|refine Wp.lett ?_|(apply Wp.obind;exact hx1))|((with_reducible refine y8 ?_ ?_);first|(with_reducible assumption)|((with_reducible first|apply decide_eq_true|apply zab);omega))|(with_reducible refine yd (by assumption) ?_)|rw[z8])
 refine y3f (k hD (by rw[M.ex];exact hx)) M fun c T h2 kt M2=>?_;refine Wp.obind (za0 _ _) (Wp.obind (z13 _) (Wp.obind (z9f _ _ _) (Wp.obind (z5 _ _) (Wp.obind (z129 _ _ _ _) (Wp.obind (z6 _) ?_)))));refine yc M2 fun h3 M3=>?_;rw[z8];refine y11 M3 kt.len rfl kt.one fun h4 M4=>?_;refine Wp.lett (y7 rfl ?_);exact hk c T h2.next h4 kt M4
theorem row_bare(hu:u.length≤1000000)(hij:i<j)(hj:j≤u.length)(hi:i≤u.length)(s:¬z16b u i)(k:z20c u n i (.ok (t,j)))(n0:signAt u j=0)(m:z486 u n (l++[t]) j r):z486 u n l i r:=by
 intro D f h H kc kv T0 T1 z k7 Q hD hf g ks hx hl hz M hok hbad;obtain⟨f,rfl⟩:∃f',f=f'+1:=⟨f - 1,by omega⟩;have ll:=z1b u;rw[zef];refine z443 s k hD hx M _ fun c T q H' kt M2=>?_
 have fin:Wp (obind (z15 H' 6 (.ptr q 0)) fun t62=>
       outK (z122 Tryd.prog H' zf5 1 [(0,.agg t62)]) fun v63 h_66=>
       outK (z5e Tryd.prog h_66 zf5 zf5 kv v63) fun v64 h_68=>
       zce (z14 n D) u h k7 f ((j:Nat):Int) v64 h_68) Q:=by
  refine y14 M2 kt.len ?_;refine y30 M2 g ks kt hx (by omega) fun kv' h' T0' g' ks' M5=>?_;exact m (by omega) (by omega) g' ks' hx (by simp;omega) hz M5.pop hok hbad
 rcases Nat.lt_or_ge j u.length with hlt|hge
 ·obtain ⟨z1, z2, z3⟩ := sign_zero n0 (at?_lt hlt)
  have hx1:=z30 (l:=u) hlt
  repeat(first|(with_reducible first|refine y5 (fun _ _=>?_)|refine Wp.lett ?_|(apply Wp.obind;exact hx1))|((with_reducible refine y8 ?_ ?_);((with_reducible first|apply decide_eq_true|apply z28);omega))|((with_reducible refine y7 ?_ ?_);((with_reducible first|apply decide_eq_false|apply z2e);omega))|(with_reducible refine yd (by assumption) ?_))
  exact fin
 ·repeat (first | (with_reducible first | refine y5 (fun _ _ => ?_) | refine Wp.lett ?_) | ((with_reducible refine y7 ?_ ?_; apply decide_eq_false); omega) | (with_reducible refine yd (by assumption) ?_))
  exact fin
theorem row_sign(hu:u.length≤1000000)(hij:i<j)(hi:i≤u.length)(s:¬z16b u i)(k:z20c u n i (.ok (t,j)))(n0:signAt u j≠0)(m:z486 u n (l++[z30b (signAt u j) [t]]) (j+1) r):z486 u n l i r:=by
 intro D f h H kc kv T0 T1 z k7 Q hD hf g ks hx hl hz M hok hbad;obtain⟨f,rfl⟩:∃f',f=f'+1:=⟨f - 1,by omega⟩;have ll:=z1b u;rw[zef];refine z443 s k hD hx M _ fun c T q H' kt M2=>?_;obtain⟨c0,hc0,hs⟩:=sign_pos n0;obtain⟨hlt,hc1⟩:=at?_some hc0
 have fin:∀k62:Int→AHeap→R,(k62=fun (t1_63:Int) (h_64:AHeap)=>obind (z15 h_64 6 (.ptr q 0)) fun t62=>
       outK (z122 Tryd.prog h_64 zf5 1 [(0,.agg t62)]) fun v63 h_66=>
       outK (z5e Tryd.prog h_66 zf5 zf5 kv v63) fun v64 h_68=>
       zce (z14 n D) u h k7 f t1_63 v64 h_68)→Wp (obind (z15 H' 6 (.ptr q 0)) fun t56=>
       outK (z122 Tryd.prog H' zf5 1 [(0,.agg t56)]) fun v57 h_72=>
       obind (z27a Tryd.prog z17 [(0,.int .i64 ((signAt u j:Nat):Int)),(2,v57)]) fun t58=>
       obind (z16 h_72 6 t58 (.ptr q 0)) fun h_75=>
       lett (IntKind.i64.wrap (((j:Nat):Int)+1)) fun (t60:Int)=>k62 t60 h_75) Q:=by
  intro k62 ek62;refine y14 M2 kt.len ?_;refine y2d M2 (kt.bld _) kt.one hx fun h72 M3=>?_;refine Wp.obind (z38d _ _ _) ?_;have kt':=signed kt (signAt u j) H'.next
  have M4:Mem [] h h72 ((q,z17,c)::(((h.next,z17,z)::(T0++T1))++([(H'.next,z17,c)]++(T++[])))):=M3.perm (by
   rw[List.append_nil];exact(List.Perm.cons _ (List.perm_append_comm_assoc ((h.next,z17,z)::(T0++T1)) [(H'.next,z17,c)] T)).trans (List.Perm.swap _ _ _))
  refine y11 M4 rfl kt.len rfl fun h75 M5=>?_
  repeat(first|((with_reducible refine yf ?_ ?_ ?_);omega;omega)|(with_reducible refine yd (by assumption) ?_))
  refine y14 M5 rfl ?_;refine y30 M5 g ks kt' hx (by omega) fun kv' h' T0' g' ks' M6=>?_;rw[show (j:Int)+1=((j+1:Nat):Int) by omega];exact m (by omega) (by omega) g' ks' hx (by simp;omega) hz M6.pop hok hbad
 have hx1:=z30 (l:=u) hlt;rw[hc1] at hx1
 rcases hs with⟨rfl,hs⟩|⟨rfl,hs⟩|⟨rfl,hs⟩
 ·rw [hs] at fin
  repeat(first|(with_reducible first|refine y5 (fun _ _=>?_)|refine Wp.lett ?_|(apply Wp.obind;exact hx1))|((with_reducible refine y8 ?_ ?_);((with_reducible first|apply decide_eq_true|apply z28);omega))|(with_reducible refine yd (by assumption) ?_))
  rename_i k62 ek62;exact fin k62 ek62
 ·rw [hs] at fin
  repeat(first|(with_reducible first|refine y5 (fun _ _=>?_)|refine Wp.lett ?_|(apply Wp.obind;exact hx1))|((with_reducible refine y8 ?_ ?_);((with_reducible first|apply decide_eq_true|apply z28);omega))|((with_reducible refine y7 ?_ ?_;apply z2e);omega)|(with_reducible refine yd (by assumption) ?_))
  rename_i k62 ek62;exact fin k62 ek62
 ·rw [hs] at fin
  repeat(first|(with_reducible first|refine y5 (fun _ _=>?_)|refine Wp.lett ?_|(apply Wp.obind;exact hx1))|((with_reducible refine y8 ?_ ?_);((with_reducible first|apply decide_eq_true|apply z28);omega))|((with_reducible refine y7 ?_ ?_;apply z2e);omega)|(with_reducible refine yd (by assumption) ?_))
  rename_i k62 ek62;exact fin k62 ek62
end
section
variable {n i j q:Nat}{u:z11}{l:List Nd}{r:Res}{t:Nd}{w:List Nat}
theorem z411{r:Except Nat (List Nat×Nat)}(k:LoopP u w j r):WordsOk w→∀w' j',r=.ok (w',j')→WordsOk w':=by
 induction k with
 |done ht=>
  intro hw w' j' e
  cases e
  exact hw
 |bad ht hm=>
  intro hw w' j' e
  cases e
 |more ht hm m ih=>
  intro hw;exact ih (z165 hw hm).1
theorem z491{r:Except Nat (List Nat×Nat)}(k:SetP u i r):∀w' j',r=.ok (w',j')→WordsOk w':=by
 intro w' j' e
 cases k with
 |bad hm=>cases e
 |set hm m=>
  rename_i w1 j1 r1
  cases r1 with
  |error q=>cases e
  |ok wj=>
   obtain⟨w2,j2⟩:=wj;have:=z411 m (z165 z3b hm).1 w2 j2 rfl;unfold z21d at e
   cases e
   split
   ·exact z1f8 this
   ·exact this
theorem z446:∀{l:List Nd} {i:Nat} {r:Res},RowP u l i r→∀t j,r=.ok (t,j)→z16b u j
 |_,_,_,.stop s,_,_,e=>by
  cases e
  exact s
 |_,_,_,.bad _ _,_,_,e=>by cases e
 |_,_,_,.more _ _ m,t,j,e=>z446 m t j e
termination_by structural _ _ _ x=>x
theorem z481:∀{l:List Nd} {i:Nat} {r:Res},AltP u l i r→∀t j,r=.ok (t,j)→at? u j=none∨at? u j=some 41
 |_,_,_,.bad _,_,_,e=>by cases e
 |_,_,_,.last h n,t,j,e=>by
  cases e
  rcases z446 h _ _ rfl with s|s|s
  ·exact .inl s
  ·exact absurd s n
  ·exact .inr s
 |_,_,_,.more _ _ m,t,j,e=>z481 m t j e
termination_by structural _ _ _ x=>x
theorem z390(hu:u.length≤1000000)(hn2:u.length+5<n)(h0:at? u i=some 40)(m:AltM u n [] (i+1) (.error q)):z20c u n i (.error q):=by
 intro D h hD hx;obtain⟨D,rfl⟩:∃D',D=D'+1:=⟨D - 1,by omega⟩;obtain⟨hlt,hc⟩:=at?_some h0;have hx1:=z30 (l:=u) hlt;rw[hc] at hx1;rw[z84];refine OutN.gc ?_;unfold z6d;have ll:=z1b u;refine yc (Mem.nil [] h) fun h2 M=>?_;have ho:=z257 hn2 (h:=h2) m (show 3*(u.length - (i+1))+7≤D by omega) (by rw[M.ex];exact hx)
 repeat(first|((with_reducible refine yf ?_ ?_ ?_);omega;omega)|(with_reducible first|refine Wp.lett ?_|(apply Wp.obind;exact hx1))|((with_reducible refine y8 ?_ ?_;apply z28);omega)|rw[z8])
 refine y46 ho ?_;have Mx:=M
 repeat(first|(with_reducible apply Wp.obind;first|exact z5 _ _|exact z6 _)|((with_reducible apply y14 Mx);rfl)|((with_reducible apply y11 Mx);rfl;rfl;(rfl);clear Mx;intro _ Mx)|((with_reducible apply y1a Mx);rfl)|((with_reducible apply y1c Mx);rfl;rfl;(rfl);clear Mx;intro _ Mx)|((with_reducible apply yc Mx);clear Mx;intro _ Mx)|(with_reducible first|refine Wp.lett ?_|(apply Wp.obind;first|exact z13 _|exact za0 _ _|exact z9f _ _ _|exact z129 _ _ _ _)|(refine y8 ?_ ?_;exact Bool.not_false))|rw[z8])
 exact Wp.ret ⟨rfl,Mx.tch⟩
theorem z38f(hu:u.length≤1000000)(hn2:u.length+5<n)(h0:at? u i=some 40)(m:AltM u n [] (i+1) (.ok (t,j)))(hj:j=u.length):z20c u n i (.error j):=by
 intro D h hD hx;obtain⟨D,rfl⟩:∃D',D=D'+1:=⟨D - 1,by omega⟩;obtain⟨hlt,hc⟩:=at?_some h0;have hx1:=z30 (l:=u) hlt;rw[hc] at hx1;rw[z84];refine OutN.gc ?_;unfold z6d;have ll:=z1b u;refine yc (Mem.nil [] h) fun h2 M=>?_;have ho:=z257 hn2 (h:=h2) m (show 3*(u.length - (i+1))+7≤D by omega) (by rw[M.ex];exact hx)
 repeat(first|((with_reducible refine yf ?_ ?_ ?_);omega;omega)|(with_reducible first|refine Wp.lett ?_|(apply Wp.obind;exact hx1))|((with_reducible refine y8 ?_ ?_;apply z28);omega)|rw[z8])
 refine y3f ho M fun c T h3 kt M2=>?_;refine Wp.obind (za0 _ _) (Wp.obind (z13 _) (Wp.obind (z9f _ _ _) (Wp.obind (z5 _ _) (Wp.obind (z129 _ _ _ _) (Wp.obind (z6 _) ?_)))));refine yc M2 fun h4 M3=>?_;refine y11 M3 kt.len rfl kt.one fun h5 M4=>?_
 repeat(first|(with_reducible refine Wp.lett ?_)|((with_reducible refine y8 ?_ ?_;apply z28);omega)|(with_reducible refine y7 ?_ ?_;exact Bool.not_true))
 refine y1c M4 rfl rfl rfl fun h6 M5=>?_;refine y1a M5 rfl ?_;exact Wp.ret ⟨rfl,M5.tch⟩
theorem atom_group(hu:u.length≤1000000)(hn2:u.length+5<n)(h0:at? u i=some 40)(m:AltM u n [] (i+1) (.ok (t,j)))(hj:j<u.length):z20c u n i (.ok (t,j+1)):=by
 intro D h hD hx;obtain⟨D,rfl⟩:∃D',D=D'+1:=⟨D - 1,by omega⟩;obtain⟨hlt,hc⟩:=at?_some h0;have hx1:=z30 (l:=u) hlt;rw[hc] at hx1;rw[z84];refine OutN.gc ?_;unfold z6d;have ll:=z1b u;refine yc (Mem.nil [] h) fun h2 M=>?_;have ho:=z257 hn2 (h:=h2) m (show 3*(u.length - (i+1))+7≤D by omega) (by rw[M.ex];exact hx)
 repeat(first|((with_reducible refine yf ?_ ?_ ?_);omega;omega)|(with_reducible first|refine Wp.lett ?_|(apply Wp.obind;exact hx1))|((with_reducible refine y8 ?_ ?_;apply z28);omega)|rw[z8])
 refine y3f ho M fun c T h3 kt M2=>?_;refine Wp.obind (za0 _ _) (Wp.obind (z13 _) (Wp.obind (z9f _ _ _) (Wp.obind (z5 _ _) (Wp.obind (z129 _ _ _ _) (Wp.obind (z6 _) ?_)))));refine yc M2 fun h4 M3=>?_;refine y11 M3 kt.len rfl kt.one fun h5 M4=>?_
 repeat(first|(with_reducible refine Wp.lett ?_)|((with_reducible refine y7 ?_ ?_);first|(with_reducible exact Bool.not_true)|((with_reducible apply z2e);omega))|rw[z8])
 refine y14 M4 kt.len ?_
 repeat(((with_reducible refine yf ?_ ?_ ?_);omega;omega))
 refine y1c M4 kt.len rfl kt.one fun h6 M5=>?_;refine y1a M5 kt.len ?_;exact Wp.ret ⟨c,T,by rw[show ((j+1:Nat):Int)=(j:Int)+1 by omega],kt,M5.pop.pop⟩
theorem atom_any(hn:300<n)(hu:u.length≤1000000)(h0:at? u i=some 46):z20c u n i (.ok (anyN,i+1)):=by
 intro D h hD hx;obtain⟨D,rfl⟩:∃D',D=D'+1:=⟨D - 1,by omega⟩;obtain⟨hlt,hc⟩:=at?_some h0;have hx1:=z30 (l:=u) hlt;rw[hc] at hx1;rw[z84];refine OutN.gc ?_;unfold z6d;have ll:=z1b u;refine yc (Mem.nil [] h) fun h2 M=>?_;obtain⟨D,rfl⟩:∃D',D=D'+1:=⟨D - 1,by omega⟩
 repeat(first|(with_reducible first|refine Wp.lett ?_|(apply Wp.obind;exact hx1))|((with_reducible refine y8 ?_ ?_;apply z28);omega)|((with_reducible refine y7 ?_ ?_;apply z2e);omega)|rw[z8])
 refine Wp.callN (All_w hn) (Wp.obind (z13 _) ?_)
 repeat(((with_reducible refine yf ?_ ?_ ?_);omega;omega))
 have kt:NodeT anyN (z25 2 z399 .nsl) []:=y19 2 z22e;refine y11 M kt.len rfl kt.one fun h5 M4=>?_;refine y14 M4 kt.len ?_;exact Wp.ret ⟨_,[],by rw[show ((i+1:Nat):Int)=(i:Int)+1 by omega],kt,M4.pop⟩
theorem atom_set(hn:300<n)(hu:u.length≤1000000)(hn2:u.length+5<n)(h0:at? u i=some 91)(m:SetP u (i+1) (.ok (w,j))):z20c u n i (.ok (.mk 2 w [],j)):=by
 intro D h hD hx;obtain⟨D,rfl⟩:∃D',D=D'+1:=⟨D - 1,by omega⟩;obtain⟨hlt,hc⟩:=at?_some h0;have hx1:=z30 (l:=u) hlt;rw[hc] at hx1;rw[z84];refine OutN.gc ?_;unfold z6d;have ll:=z1b u;refine yc (Mem.nil [] h) fun h2 M=>?_;obtain⟨D,rfl⟩:∃D',D=D'+2:=⟨D - 2,by omega⟩;have ho:=class_w (n:=n) (d:=D) (h:=h2) hu hn hn2 (show i+1≤u.length by omega) m;rw[show ((i+1:Nat):Int)=(i:Int)+1 by omega,z492] at ho
 repeat(first|((with_reducible refine yf ?_ ?_ ?_);omega;omega)|(with_reducible first|refine Wp.lett ?_|(apply Wp.obind;first|exact hx1|exact z5 _ _|exact z6 _|exact z13 _|exact za0 _ _|exact z9f _ _ _|exact z129 _ _ _ _))|((with_reducible refine y8 ?_ ?_;apply z28);omega)|((with_reducible refine y7 ?_ ?_;apply z2e);omega)|(with_reducible apply Wp.callN;exact ho)|rw[z8])
 have kt:NodeT (.mk 2 w []) (z25 2 w .nsl) []:=y19 2 (z491 m _ _ rfl);refine y11 M kt.len rfl kt.one fun h5 M4=>?_;refine y14 M4 kt.len ?_;exact Wp.ret ⟨_,[],rfl,kt,M4.pop⟩
theorem z3e7(hn:300<n)(hu:u.length≤1000000)(hn2:u.length+5<n)(h0:at? u i=some 91)(m:SetP u (i+1) (.error q)):z20c u n i (.error q):=by
 intro D h hD hx;obtain⟨D,rfl⟩:∃D',D=D'+1:=⟨D - 1,by omega⟩;obtain⟨hlt,hc⟩:=at?_some h0;have hx1:=z30 (l:=u) hlt;rw[hc] at hx1;rw[z84];refine OutN.gc ?_;unfold z6d;have ll:=z1b u;refine yc (Mem.nil [] h) fun h2 M=>?_;obtain⟨D,rfl⟩:∃D',D=D'+2:=⟨D - 2,by omega⟩;have ho:=class_w (n:=n) (d:=D) (h:=h2) hu hn hn2 (show i+1≤u.length by omega) m;rw[show ((i+1:Nat):Int)=(i:Int)+1 by omega,z492] at ho
 repeat(first|((with_reducible refine yf ?_ ?_ ?_);omega;omega)|(with_reducible first|refine Wp.lett ?_|(apply Wp.obind;first|exact hx1|exact z5 _ _|exact z6 _|exact z13 _|exact za0 _ _|exact z9f _ _ _|exact z129 _ _ _ _))|((with_reducible refine y8 ?_ ?_;apply z28);omega)|((with_reducible refine y7 ?_ ?_;apply z2e);omega)|(with_reducible apply Wp.callN;exact ho)|rw[z8])
 refine y11 M rfl rfl rfl fun h5 M4=>?_;refine y14 M4 rfl ?_;exact Wp.ret ⟨rfl,M4.tch⟩
theorem z42f(hu:u.length≤1000000)(h0:at? u i=some 92)(h1:at? u (i+1)=none):z20c u n i (.error (i+1)):=by
 intro D h hD hx;obtain⟨D,rfl⟩:∃D',D=D'+1:=⟨D - 1,by omega⟩;obtain⟨hlt,hc⟩:=at?_some h0;have hx1:=z30 (l:=u) hlt;rw[hc] at hx1;rw[z84];refine OutN.gc ?_;unfold z6d;have ll:=z1b u;refine yc (Mem.nil [] h) fun h2 M=>?_;have he:=at?_none h1 (by omega)
 repeat(first|(with_reducible refine y5 (fun _ _=>?_))|((with_reducible refine yf ?_ ?_ ?_);omega;omega)|(with_reducible first|refine Wp.lett ?_|(apply Wp.obind;exact hx1))|((with_reducible refine y8 ?_ ?_;apply z28);omega)|((with_reducible refine y7 ?_ ?_;apply z2e);omega)|(with_reducible refine yd (by assumption) ?_)|rw[z8])
 refine y11 M rfl rfl rfl fun h5 M4=>?_;refine y14 M4 rfl ?_;exact Wp.ret ⟨by rw[show ((i+1:Nat):Int)=(i:Int)+1 by omega];rfl,M4.tch⟩
theorem atom_sl{c:Nat}(hu:u.length≤1000000)(h0:at? u i=some 92)(h1:at? u (i+1)=some c):z20c u n i (.ok (z294 c,i+2)):=by
 intro D h hD hx;obtain⟨D,rfl⟩:∃D',D=D'+1:=⟨D - 1,by omega⟩;obtain⟨hlt,hc⟩:=at?_some h0;have hx1:=z30 (l:=u) hlt;rw[hc] at hx1;rw[z84];refine OutN.gc ?_;unfold z6d;have ll:=z1b u;refine yc (Mem.nil [] h) fun h2 M=>?_;obtain⟨hlt1,hc1⟩:=at?_some h1;have hx2:=z30 (l:=u) hlt1;rw[hc1,show ((i+1:Nat):Int)=(i:Int)+1 by omega] at hx2;have hc256:=at?_256 h1;obtain⟨D,rfl⟩:∃D',D=D'+1:=⟨D - 1,by omega⟩
 repeat(first|(with_reducible refine y5 (fun _ _=>?_))|((with_reducible refine yf ?_ ?_ ?_);omega;omega)|(with_reducible first|refine Wp.lett ?_|(apply Wp.obind;first|exact hx1|exact hx2|exact z13 _))|((with_reducible refine y8 ?_ ?_;apply z28);omega)|((with_reducible refine y7 ?_ ?_;apply z2e);omega)|(with_reducible first|(apply Wp.callN;exact One_w hc256)|refine yd (by assumption) ?_)|rw[z8])
 have kt:NodeT (z294 c) (z25 2 (z12a zeroW c 1) .nsl) []:=y19 2 (zae 1 z3b c);refine y11 M kt.len rfl kt.one fun h5 M4=>?_;refine y14 M4 kt.len ?_;exact Wp.ret ⟨_,[],by rw[show ((i+2:Nat):Int)=(i:Int)+2 by omega],kt,M4.pop⟩
theorem atom_bad{c:Nat}(h0:at? u i=some c)(hb:c=42∨c=43∨c=63∨c=93):z20c u n i (.error i):=by
 intro D h hD hx;obtain⟨D,rfl⟩:∃D',D=D'+1:=⟨D - 1,by omega⟩;obtain⟨hlt,hc⟩:=at?_some h0;have hx1:=z30 (l:=u) hlt;rw[hc] at hx1;rw[z84];refine OutN.gc ?_;unfold z6d;have ll:=z1b u;refine yc (Mem.nil [] h) fun h2 M=>?_
 rcases hb with rfl|rfl|rfl|rfl
 ·repeat (first | (with_reducible first | refine y5 (fun _ _ => ?_) | refine Wp.lett ?_ | (apply Wp.obind; exact hx1)) | ((with_reducible refine y8 ?_ ?_); first | (with_reducible rfl) | ((with_reducible apply z28); omega)) | ((with_reducible refine y7 ?_ ?_; apply z2e); omega) | (with_reducible refine yd (by assumption) ?_) | rw [z8])
  refine y11 M rfl rfl rfl fun h5 M4=>?_;refine y14 M4 rfl ?_;exact Wp.ret ⟨rfl,M4.tch⟩
 ·repeat (first | (with_reducible first | refine y5 (fun _ _ => ?_) | refine Wp.lett ?_ | (apply Wp.obind; exact hx1)) | ((with_reducible refine y8 ?_ ?_); first | (with_reducible rfl) | ((with_reducible apply z28); omega)) | ((with_reducible refine y7 ?_ ?_; apply z2e); omega) | (with_reducible refine yd (by assumption) ?_) | rw [z8])
  refine y11 M rfl rfl rfl fun h5 M4=>?_;refine y14 M4 rfl ?_;exact Wp.ret ⟨rfl,M4.tch⟩
 ·repeat (first | (with_reducible first | refine y5 (fun _ _ => ?_) | refine Wp.lett ?_ | (apply Wp.obind; exact hx1)) | ((with_reducible refine y8 ?_ ?_); first | (with_reducible rfl) | ((with_reducible apply z28); omega)) | ((with_reducible refine y7 ?_ ?_; apply z2e); omega) | (with_reducible refine yd (by assumption) ?_) | rw [z8])
  refine y11 M rfl rfl rfl fun h5 M4=>?_;refine y14 M4 rfl ?_;exact Wp.ret ⟨rfl,M4.tch⟩
 ·repeat (first | (with_reducible first | refine y5 (fun _ _ => ?_) | refine Wp.lett ?_ | (apply Wp.obind; exact hx1)) | ((with_reducible refine y8 ?_ ?_; apply z28); omega) | ((with_reducible refine y7 ?_ ?_; apply z2e); omega) | (with_reducible refine yd (by assumption) ?_) | rw [z8])
  refine y11 M rfl rfl rfl fun h5 M4=>?_;refine y14 M4 rfl ?_;exact Wp.ret ⟨rfl,M4.tch⟩
theorem atom_one{c:Nat}(hu:u.length≤1000000)(h0:at? u i=some c)(hb:c≠42∧c≠43∧c≠63∧c≠93)(hm:c≠40∧c≠46∧c≠91∧c≠92):z20c u n i (.ok (z294 c,i+1)):=by
 intro D h hD hx;obtain⟨D,rfl⟩:∃D',D=D'+1:=⟨D - 1,by omega⟩;obtain⟨hlt,hc⟩:=at?_some h0;have hx1:=z30 (l:=u) hlt;rw[hc] at hx1;rw[z84];refine OutN.gc ?_;unfold z6d;have ll:=z1b u;refine yc (Mem.nil [] h) fun h2 M=>?_;have hc256:=at?_256 h0;obtain⟨D,rfl⟩:∃D',D=D'+1:=⟨D - 1,by omega⟩;obtain⟨b1,b2,b3,b4⟩:=hb;obtain⟨m1,m2,m3,m4⟩:=hm;have e93:((c:Int) == 93)=false:=z2e (by omega)
 repeat(first|(with_reducible refine y5 (fun _ _=>?_))|((with_reducible refine yf ?_ ?_ ?_);omega;omega)|(with_reducible first|refine Wp.lett ?_|(apply Wp.obind;first|exact hx1|exact z13 _))|((with_reducible refine y7 ?_ ?_);first|(with_reducible assumption)|((with_reducible apply z2e);omega))|(with_reducible first|(apply Wp.callN;exact One_w hc256)|refine yd (by assumption) ?_)|rw[z8])
 have kt:NodeT (z294 c) (z25 2 (z12a zeroW c 1) .nsl) []:=y19 2 (zae 1 z3b c);refine y11 M kt.len rfl kt.one fun h5 M4=>?_;refine y14 M4 kt.len ?_;exact Wp.ret ⟨_,[],by rw[show ((i+1:Nat):Int)=(i:Int)+1 by omega],kt,M4.pop⟩
def PartM(u:z11)(n i:Nat):Res→Prop
 | .error q=>¬z16b u i→z20c u n i (.error q)
 | .ok (t,j)=>∀l r',¬z16b u i→z486 u n (l++[t]) j r'→z486 u n l i r'
mutual
theorem altM(hu:u.length≤1000000)(hn:300<n)(hn2:u.length+5<n):∀{l:List Nd} {i:Nat} {r:Res},AltP u l i r→i≤u.length→AltM u n l i r
 |_,_,_,.bad h,hi=>alt_bad hu hn2 (rowM hu hn hn2 h hi)
 |_,_,_,.last h ne,hi=>alt_last hu hn2 (z10b h hi).2 (rowM hu hn hn2 h hi) ne hi
 | _, _, _, .more h ne m, hi => alt_more hu hn2 (z10b h hi).1 (rowM hu hn hn2 h hi) ne hi (altM hu hn hn2 m (by
   obtain⟨hp,_⟩:=at?_some ne;omega))
termination_by structural _ _ _ x=>x
theorem rowM(hu:u.length≤1000000)(hn:300<n)(hn2:u.length+5<n):∀{l:List Nd} {i:Nat} {r:Res},RowP u l i r→i≤u.length→z486 u n l i r
 |_,_,_,.stop s,hi=>row_stop hi s
 |_,_,_,.bad s h,hi=>row_bad s (partM hu hn hn2 h hi s)
 |l,_,r,.more s h m,hi=>partM hu hn hn2 h hi l r s (rowM hu hn hn2 m (z19a h hi).2)
termination_by structural _ _ _ x=>x
theorem partM(hu:u.length≤1000000)(hn:300<n)(hn2:u.length+5<n):∀{i:Nat} {r:Res},PartP u i r→i≤u.length→PartM u n i r
 |_,_,.bad h,hi=>fun s=>atomM hu hn hn2 h hi s
 |_,_,.bare h n0,hi=>fun _ _ s m=>row_bare hu (z124 h hi).1 (z124 h hi).2 hi s (atomM hu hn hn2 h hi s) n0 m
 |_,_,.sign h n0,hi=>fun _ _ s m=>row_sign hu (z124 h hi).1 hi s (atomM hu hn hn2 h hi s) n0 m
termination_by structural _ _ x=>x
theorem atomM(hu:u.length≤1000000)(hn:300<n)(hn2:u.length+5<n):∀{i:Nat} {r:Res},AtomP u i r→i≤u.length→¬z16b u i→z20c u n i r
 |_,_,.none h,hi,s=>absurd (.inl h) s
 | _, _, .open_bad h m, hi, _ => z390 hu hn2 h (altM hu hn hn2 m (by
   obtain⟨hp,_⟩:=at?_some h;omega))
 |_,_,.open_end h m ne,hi,_=>by
  obtain⟨hp,_⟩:=at?_some h;have e:=(z481 m _ _ rfl).resolve_right ne;have hj:=at?_none e (z140 m (by omega)).2;exact z38f hu hn2 h (altM hu hn hn2 m (by omega)) hj
 |_,_,.group h m ne,hi,_=>by
  obtain⟨hp,_⟩:=at?_some h;obtain⟨hj,_⟩:=at?_some ne;exact atom_group hu hn2 h (altM hu hn hn2 m (by omega)) hj
 |_,_,.any h,hi,_=>atom_any hn hu h
 |_,_,.set_bad h m,hi,_=>z3e7 hn hu hn2 h m
 |_,_,.set h m,hi,_=>atom_set hn hu hn2 h m
 |_,_,.sl_end h h1,hi,_=>z42f hu h h1
 |_,_,.sl h h1,hi,_=>atom_sl hu h h1
 | _, _, .bad h hb, hi, s => atom_bad h (by
   unfold zd8 at hb
   rcases hb with hb|hb|hb
   ·exact absurd (.inr (.inl (by rw[h,hb]))) s
   ·exact absurd (.inr (.inr (by rw[h,hb]))) s
   ·exact hb)
 | _, _, .one h hb hm, hi, _ => atom_one hu h (by
   unfold zd8 at hb;omega) hm
termination_by structural _ _ x=>x
end
end
section
variable {n d i j q:Nat}{h h0 H:AHeap}{u:z11}{l:List Nd}{r:Res}{t:Nd}{w:List Nat}{S:List Nat}{c:List AV}{kc:List (List AV)}{kv:AV}{T T0 T1:List z9e}{Q:ARes→AHeap→Prop}
theorem y35{K:AV→AHeap→R}{y:z9e}(M:Mem S h0 h ((y::(T0++T1))++T))(g:GrowT z17 6 kc kv T0)(ks:KidsT l kc T1)(kt:NodeT t c T)(hex:z7a z17 h0.ex=false)(hl:l.length≤1000001)(hk:∀kv' h' T0',GrowT z17 6 (kc++[c]) kv' T0'→KidsT (l++[t]) (kc++[c]) (T1++T)→Mem S h0 h' (y::(T0'++(T1++T)))→Wp (K kv' h') Q):
  Wp (outK (z122 Tryd.prog h zf5 1 [(0,.agg c)]) fun v12 h29=>outK (z5e Tryd.prog h29 zf5 zf5 kv v12) fun v13 h31=>K v13 h31) Q:=by
 refine y2d M (kt.bld h) kt.one hex fun h1 M1=>?_
 have M2:Mem S h0 h1 ((h.next,z17,c)::(y::(T1++T))++T0):=M1.perm (by
  refine List.Perm.cons _ (List.Perm.cons _ ?_);show ((T1++T)++T0).Perm ((T0++T1)++T);rw[List.append_assoc T0];exact List.perm_append_comm)
 have hkl:=ks.len;refine Wp.grow M2 g (by kernel_rfl) (by kernel_rfl) (by kernel_rfl) (B:=64) (by kernel_rfl) hex kt.len kt.one (by omega) (by omega) fun kv' h' T0' g' M3=>?_;refine hk kv' h' T0' g' (KidsT.snoc kt ks) (M3.perm ?_);exact List.Perm.cons _ List.perm_append_comm
theorem z45c{k8:AV→AHeap→R}{z:List AV}(hu:u.length≤1000000)(hx:z7a z17 h.ex=false):∀{l:List Nd} {i:Nat} {r:Res},FlatP (z23f u) u l i r→i≤u.length→∀{f:Nat} {H:AHeap} {kc:List (List AV)} {kv:AV} {T0 T1:List z9e},u.length - i<f→GrowT z17 6 kc kv T0→KidsT l kc T1→l.length≤i→Mem [] h H ((h.next,z17,z)::(T0++T1))→
  (∀l' kc kv T0 T1 H',z29a r=.ok (z1a0 3 l')→GrowT z17 6 kc kv T0→KidsT l' kc T1→Mem [] h H' ((h.next,z17,z)::(T0++T1))→Wp (k8 kv H') Q)→
  Wp (zb5 (z14 n (d+1)) u k8 f kv (i:Int) H) Q
 |l,i,_,.stop s,hi,f,H,kc,kv,T0,T1,hf,g,ks,hl,M,hok=>by
  obtain⟨f,rfl⟩:∃f',f=f'+1:=⟨f - 1,by omega⟩;have ll:=z1b u;rw[z114];unfold za1
  repeat(first|(with_reducible refine Wp.lett ?_)|((with_reducible refine y7 ?_ ?_;apply decide_eq_false);omega))
  exact hok _ kc kv T0 T1 H rfl g ks M
 |l,i,_,.bad s hb,_,_,_,_,_,_,_,_,_,_,_,_,_=>by
  unfold z23f at hb;rw[at?_lt s] at hb;cases hb
 |l,i,r,.more (j:=j) s hb m,hi,f,H,kc,kv,T0,T1,hf,g,ks,hl,M,hok=>by
  obtain⟨f,rfl⟩:∃f',f=f'+1:=⟨f - 1,by omega⟩;have ll:=z1b u;unfold z23f at hb;rw[at?_lt s] at hb;cases hb;have hx1:=z30 (l:=u) s;rw[z114];unfold za1
  repeat(first|(with_reducible first|refine Wp.lett ?_|(apply Wp.obind;first|exact hx1|exact z13 _))|((with_reducible refine y8 ?_ ?_;apply decide_eq_true);omega)|(with_reducible apply Wp.callN;exact One_w (UInt8.toNat_lt _)))
  have kt:∀c,NodeT (z294 c) (z25 2 (z12a zeroW c 1) .nsl) []:=fun c=>y19 2 (zae 1 z3b c);refine y35 (T:=[]) (by rw[List.append_nil];exact M) g ks (kt _) hx (by omega) fun kv' h' T0' g' ks' M5=>?_
  repeat(((with_reducible refine yf ?_ ?_ ?_);omega;omega))
  rw[show (i:Int)+1=((i+1:Nat):Int) by omega];exact z45c hu hx m (by omega) (by omega) g' ks' (by simp;omega) M5 hok
theorem lit_w(hu:u.length≤1000000)(hn2:u.length<n)(hx:z7a z17 h.ex=false)(k:FlatP (z23f u) u [] 0 r):∃t c T h',z29a r=.ok t∧z14 n (d+2) 27 [z12 u] h=some (.ret (.agg c),h')∧NodeT t c T∧Mem [] h h' T:=by
 rw[z2aa]
 have main:∃t c T h',z29a r=.ok t∧z80 (z14 n (d+1)) n u h=some (.ret (.agg c),h')∧NodeT t c T∧Mem [] h h' T:=by
  suffices hK:Wp (z80 (z14 n (d+1)) n u h) fun v h'=>∃t c T,z29a r=.ok t∧v=.ret (.agg c)∧NodeT t c T∧Mem [] h h' T by
   obtain⟨_,h',e,t,c,T,h1,rfl,h2,h3⟩:=hK;exact⟨t,c,T,h',h1,e,h2,h3⟩
  unfold z80;refine yc (Mem.nil [] h) fun h1 M1=>?_
  ((with_reducible refine y5 (fun _ _=>?_)))
  rename_i k8 ek8;refine z45c (i:=0) hu hx k (Nat.zero_le _) (by omega) (GrowT.nil _ _) .nil (Nat.le_refl _) M1 fun l' kc kv T0 T1 H' hr g ks M2=>?_;refine yd ek8 ?_;obtain⟨c,T,h2,e2,kt,M3⟩:=z487 (n:=n) (d:=d) 3 (xs:=[_]) M2 g ks;refine Wp.callN e2 (Wp.obind (z13 _) ?_);rw[z8];refine y11 M3 kt.len rfl kt.one fun h3 M4=>?_;refine y14 M4 kt.len ?_;exact Wp.ret ⟨_,c,T,hr,rfl,kt,M4.pop⟩
 obtain⟨t,c,T,h',h1,e,kt,M⟩:=main
 suffices hK:Wp (gcR h (z80 (z14 n (d+1)) n u h)) fun r h'=>∃T,r=.ret (.agg c)∧NodeT t c T∧Mem [] h h' T by
  obtain⟨_,h',e,T,rfl,k1,k2⟩:=hK;exact⟨t,c,T,h',h1,e,k1,k2⟩
 refine y4a ⟨_,h',e,⟨T,rfl,kt,M⟩,fun _ hl=>?_⟩;have hT:T=[]:=kt.low (fun y hy=>(M.row y hy).2.2.resolve_left (by simp)) hl;subst hT;exact⟨[],rfl,kt,Mem.nil _ _⟩
theorem z1eb{k8:AV→AHeap→R}{z:List AV}(hu:u.length≤1000000)(hz:z.length=6)(hn:300<n)(hx:z7a z17 h.ex=false):∀{l:List Nd} {i:Nat} {r:Res},FlatP (z21b u) u l i r→i≤u.length→∀{f:Nat} {H:AHeap} {kc:List (List AV)} {kv:AV} {T0 T1:List z9e},u.length - i<f→GrowT z17 6 kc kv T0→KidsT l kc T1→l.length≤i→Mem [] h H ((h.next,z17,z)::(T0++T1))→
  (∀l' kc kv T0 T1 H',z29a r=.ok (z1a0 3 l')→GrowT z17 6 kc kv T0→KidsT l' kc T1→Mem [] h H' ((h.next,z17,z)::(T0++T1))→Wp (k8 kv H') Q)→
  (∀q H',r=.error q→q=u.length→Tch [] h H'→Q (.ret (.tup [.agg (z25 0 zeroW .nsl),.bool false])) H')→
  Wp (z115 (z14 n (d+1)) u h k8 f kv (i:Int) H) Q
 |l,i,_,.stop s,hi,f,H,kc,kv,T0,T1,hf,g,ks,hl,M,hok,hbad=>by
  obtain⟨f,rfl⟩:∃f',f=f'+1:=⟨f - 1,by omega⟩;have ll:=z1b u;rw[z88];unfold z6f
  repeat(first|(with_reducible refine Wp.lett ?_)|((with_reducible refine y7 ?_ ?_;apply decide_eq_false);omega))
  exact hok _ kc kv T0 T1 H rfl g ks M
 |l,i,_,.bad (q:=q) s hb,hi,f,H,kc,kv,T0,T1,hf,g,ks,hl,M,hok,hbad=>by
  obtain⟨f,rfl⟩:∃f',f=f'+1:=⟨f - 1,by omega⟩;have ll:=z1b u;have hx1:=z30 (l:=u) s;unfold z21b at hb;rw[at?_lt s] at hb
  generalize hc:(u[i]).toNat=c at hb hx1
  dsimp only at hb
  split at hb
  ·cases hb
  split at hb
  ·cases hb
  split at hb
  ·rename_i h92
   subst h92
   split at hb
   ·rename_i he
    cases hb;have hl1:=at?_none he (by omega);rw[z88];unfold z6f
    repeat(first|(with_reducible refine y5 (fun _ _=>?_))|((with_reducible refine yf ?_ ?_ ?_);omega;omega)|(with_reducible first|refine Wp.lett ?_|(apply Wp.obind;exact hx1))|((with_reducible refine y8 ?_ ?_);((with_reducible first|apply decide_eq_true|apply z28);omega))|(with_reducible refine yd (by assumption) ?_)|rw[z8])
    refine y11 M rfl hz rfl fun h5 M4=>?_;refine y14 M4 rfl ?_;exact Wp.ret (hbad _ _ rfl hl1 M4.tch)
   ·cases hb
  ·cases hb
 |l,i,r,.more (j:=j) s hb m,hi,f,H,kc,kv,T0,T1,hf,g,ks,hl,M,hok,hbad=>by
  obtain⟨f,rfl⟩:∃f',f=f'+1:=⟨f - 1,by omega⟩;have ll:=z1b u;have hx1:=z30 (l:=u) s;have kt:∀c,NodeT (z294 c) (z25 2 (z12a zeroW c 1) .nsl) []:=fun c=>y19 2 (zae 1 z3b c);have kta:NodeT anyN (z25 2 z399 .nsl) []:=y19 2 z22e;have c256:(u[i]).toNat <256:=UInt8.toNat_lt _;unfold z21b at hb;rw[at?_lt s] at hb
  generalize hc:(u[i]).toNat=c at hb hx1 c256
  dsimp only at hb
  split at hb
  ·rename_i h42
   subst h42;cases hb;rw[z88];unfold z6f
   repeat(first|(with_reducible first|(first|refine y5 (fun _ _=>?_)|refine y33 (fun _ _=>?_))|refine Wp.lett ?_|(apply Wp.obind;first|exact hx1|exact z13 _))|((with_reducible refine y8 ?_ ?_);((with_reducible first|apply decide_eq_true|apply z28);omega))|((with_reducible refine y7 ?_ ?_);first|(with_reducible rfl)|((with_reducible apply z2e);omega))|(with_reducible first|(apply Wp.callN;exact All_w hn)|refine yd (by assumption) ?_))
   refine y2d M (kta.bld _) kta.one hx fun h66 M2=>?_;refine Wp.obind (z38d _ _ _) ?_;have kt':=signed kta 5 H.next
   have M3:Mem [] h h66 (((h.next,z17,z)::(T0++T1))++([(H.next,z17,z25 2 z399 .nsl)]++([]++[]))):=M2.perm (by
    rw[List.append_nil,List.append_nil];exact List.perm_append_comm)
   refine y35 M3 g ks kt' hx (by omega) fun kv' h' T0' g' ks' M5=>?_
   repeat(first|((with_reducible refine yf ?_ ?_ ?_);omega;omega)|(with_reducible first|refine yd (by assumption) ?_|refine y51 (by assumption) ?_))
   rw[show (i:Int)+1=((i+1:Nat):Int) by omega];exact z1eb hu hz hn hx m (by omega) (by omega) g' ks' (by simp;omega) M5 hok hbad
  split at hb
  ·rename_i h63
   subst h63;cases hb;rw[z88];unfold z6f
   repeat(first|(with_reducible first|(first|refine y5 (fun _ _=>?_)|refine y33 (fun _ _=>?_))|refine Wp.lett ?_|(apply Wp.obind;first|exact hx1|exact z13 _))|((with_reducible refine y8 ?_ ?_);((with_reducible first|apply decide_eq_true|apply z28);omega))|((with_reducible refine y7 ?_ ?_);first|(with_reducible rfl)|((with_reducible apply z2e);omega))|(with_reducible first|(apply Wp.callN;exact All_w hn)|refine yd (by assumption) ?_))
   refine y35 (T:=[]) (by rw[List.append_nil];exact M) g ks kta hx (by omega) fun kv' h' T0' g' ks' M5=>?_
   repeat(first|((with_reducible refine yf ?_ ?_ ?_);omega;omega)|(with_reducible first|refine yd (by assumption) ?_|refine y51 (by assumption) ?_))
   rw[show (i:Int)+1=((i+1:Nat):Int) by omega];exact z1eb hu hz hn hx m (by omega) (by omega) g' ks' (by simp;omega) M5 hok hbad
  split at hb
  ·rename_i h92
   subst h92
   split at hb
   ·cases hb
   ·rename_i e he
    cases hb;obtain⟨hl1,he1⟩:=at?_some he;have e256:=at?_256 he;have hx2:=z30 (l:=u) hl1;rw[he1,show ((i+1:Nat):Int)=(i:Int)+1 by omega] at hx2;rw[z88];unfold z6f
    repeat(first|(with_reducible first|refine y5 (fun _ _=>?_)|refine y33 (fun _ _=>?_))|((with_reducible refine yf ?_ ?_ ?_);omega;omega)|(with_reducible first|refine Wp.lett ?_|(apply Wp.obind;first|exact hx1|exact hx2|exact z13 _))|((with_reducible refine y8 ?_ ?_);((with_reducible first|apply decide_eq_true|apply z28);omega))|((with_reducible refine y7 ?_ ?_;apply z2e);omega)|(with_reducible first|(apply Wp.callN;exact One_w e256)|refine yd (by assumption) ?_))
    refine y35 (T:=[]) (by rw[List.append_nil];exact M) g ks (kt _) hx (by omega) fun kv' h' T0' g' ks' M5=>?_
    repeat(first|((with_reducible refine yf ?_ ?_ ?_);omega;omega)|(with_reducible refine y51 (by assumption) ?_))
    rw[show (i:Int)+1+1=((i+2:Nat):Int) by omega];exact z1eb hu hz hn hx m (by omega) (by omega) g' ks' (by simp;omega) M5 hok hbad
  ·cases hb
   rw[z88];unfold z6f
   repeat(first|(with_reducible first|(first|refine y5 (fun _ _=>?_)|refine y33 (fun _ _=>?_))|refine Wp.lett ?_|(apply Wp.obind;first|exact hx1|exact z13 _))|((with_reducible refine y8 ?_ ?_);((with_reducible first|apply decide_eq_true|apply z28);omega))|((with_reducible refine y7 ?_ ?_);first|(with_reducible rfl)|((with_reducible apply z2e);omega))|(with_reducible first|(apply Wp.callN;exact One_w c256)|refine yd (by assumption) ?_))
   refine y35 (T:=[]) (by rw[List.append_nil];exact M) g ks (kt _) hx (by omega) fun kv' h' T0' g' ks' M5=>?_
   repeat(first|((with_reducible refine yf ?_ ?_ ?_);omega;omega)|(with_reducible first|refine yd (by assumption) ?_|refine y51 (by assumption) ?_))
   rw[show (i:Int)+1=((i+1:Nat):Int) by omega];exact z1eb hu hz hn hx m (by omega) (by omega) g' ks' (by simp;omega) M5 hok hbad
def OutG(h:AHeap)(x:R)(u:z11):Except Nat Nd→Prop
 | .ok t=>∃c T h',x=some (.ret (.tup [.agg c,.bool true]),h')∧NodeT t c T∧Mem [] h h' T
 | .error q=>q=u.length∧x=some (.ret (.tup [.agg (z25 0 zeroW .nsl),.bool false]),h)
def RawG(h:AHeap)(u:z11):Except Nat Nd→ARes→AHeap→Prop
 | .ok t,v,h'=>∃c T,v=.ret (.tup [.agg c,.bool true])∧NodeT t c T∧Mem [] h h' T
 | .error q,v,h'=>q=u.length∧v=.ret (.tup [.agg (z25 0 zeroW .nsl),.bool false])∧Tch [] h h'
theorem OutG.gc{r:Except Nat Nd}{x:R}(k:Wp x (RawG h u r)):OutG h (gcR h x) u r:=by
 cases r with
 |error q=>
  obtain⟨v,h',e,hq,e2,t⟩:=k;refine⟨hq,?_⟩;apply Wp.eq;exact Wp.gc ⟨v,h',e,t.above,by rw[e2];rfl,e2,rfl⟩
 |ok t=>
  obtain⟨v,h',e,c,T,rfl,kt,M⟩:=k
  suffices hK:Wp (gcR h x) fun r h'=>∃T,r=.ret (.tup [.agg c,.bool true])∧NodeT t c T∧Mem [] h h' T by
   obtain⟨_,h',e,T,rfl,k1,k2⟩:=hK;exact⟨c,T,h',e,k1,k2⟩
  refine y4a ⟨_,h',e,⟨T,rfl,kt,M⟩,fun _ hl=>?_⟩
  have h1:y1e h.next c=true:=by
   have:(y1e h.next c&&(true&&y1e h.next []))=true:=hl;rw[Bool.and_eq_true] at this;exact this.1
  have hT:T=[]:=kt.low (fun y hy=>(M.row y hy).2.2.resolve_left (by simp)) h1;subst hT;exact⟨[],rfl,kt,Mem.nil _ _⟩
theorem glob_w(hu:u.length≤1000000)(hn:300<n)(hn2:u.length<n)(hx:z7a z17 h.ex=false)(k:FlatP (z21b u) u [] 0 r):OutG h (z14 n (d+2) 28 [z12 u] h) u (z29a r):=by
 rw[z3a1];refine OutG.gc ?_;unfold z163;refine yc (Mem.nil [] h) fun h1 M1=>?_
 ((with_reducible refine y5 (fun _ _=>?_)))
 rename_i k8 ek8;refine z1eb (i:=0) hu rfl hn hx k (Nat.zero_le _) (by omega) (GrowT.nil _ _) .nil (Nat.le_refl _) M1 (fun l' kc kv T0 T1 H' hr g ks M2=>?_) fun q H' hr hq ht=>?_
 ·refine yd ek8 ?_
  obtain⟨c,T,h2,e2,kt,M3⟩:=z487 (n:=n) (d:=d) 3 (xs:=[_]) M2 g ks;refine Wp.callN e2 (Wp.obind (z13 _) ?_);rw[z8];refine y11 M3 kt.len rfl kt.one fun h3 M4=>?_;refine y14 M4 kt.len ?_;rw[hr];exact Wp.ret ⟨c,T,rfl,kt,M4.pop⟩
 ·subst hr
  exact⟨hq,rfl,ht⟩
end
def OutT(h:AHeap)(x:R):Except Nat Nd→Prop
 | .ok t=>∃c T h',x=some (.ret (.tup [.agg c,.agg [.int .i64 0,.int .i64 0]]),h')∧NodeT t c T∧Mem [] h h' T
 | .error q=>x=some (.ret (.tup [.agg (z25 0 zeroW .nsl),.agg [.int .i64 6,.int .i64 (q:Int)]]),h)
def RawT(h:AHeap):Except Nat Nd→ARes→AHeap→Prop
 | .ok t,v,h'=>∃c T,v=.ret (.tup [.agg c,.agg [.int .i64 0,.int .i64 0]])∧NodeT t c T∧Mem [] h h' T
 | .error q,v,h'=>v=.ret (.tup [.agg (z25 0 zeroW .nsl),.agg [.int .i64 6,.int .i64 (q:Int)]])∧Tch [] h h'
section
variable {n d:Nat}{h:AHeap}{u:z11}
theorem OutT.gc{r:Except Nat Nd}{x:R}(k:Wp x (RawT h r)):OutT h (gcR h x) r:=by
 cases r with
 |error q=>
  apply Wp.eq;exact Wp.gc (k.mono fun v h' ⟨e,t⟩=>⟨t.above,by rw[e];rfl,e,rfl⟩)
 |ok t=>
  obtain⟨v,h',e,c,T,rfl,kt,M⟩:=k
  suffices hK:Wp (gcR h x) fun r h'=>∃T,r=.ret (.tup [.agg c,.agg [.int .i64 0,.int .i64 0]])∧NodeT t c T∧Mem [] h h' T by
   obtain⟨_,h',e,T,rfl,k1,k2⟩:=hK;exact⟨c,T,h',e,k1,k2⟩
  refine y4a ⟨_,h',e,⟨T,rfl,kt,M⟩,fun _ hl=>?_⟩
  have h1:y1e h.next c=true:=by
   have:(y1e h.next c&&(y1e h.next [.int .i64 0,.int .i64 0]&&y1e h.next []))=true:=hl;rw[Bool.and_eq_true] at this;exact this.1
  have hT:T=[]:=kt.low (fun y hy=>(M.row y hy).2.2.resolve_left (by simp)) h1;subst hT;exact⟨[],rfl,kt,Mem.nil _ _⟩
theorem badT_w(q:Int):z14 n (d+1) 29 [.int .i64 q] h=some (.ret (.agg [.int .i64 6,.int .i64 q]),h):=by
 apply Wp.eq;rw[z3f3];refine Wp.gc ?_;unfold z198;have Mx:=Mem.nil [] h
 repeat(first|((with_reducible apply y14 Mx);rfl)|((with_reducible apply y11 Mx);rfl;rfl;(rfl);clear Mx;intro _ Mx)|((with_reducible apply yc Mx);clear Mx;intro _ Mx)|rw[z8])
 exact Wp.ret ⟨Mx.tch.above,rfl,rfl,rfl⟩
theorem z403{k:Int}(h1:k≠1)(h2:k≠2)(h3:k≠3):z14 n (d+1) 13 [.agg [.int .i64 k,z12 u]] h=some (.ret (.tup [.agg (z25 0 zeroW .nsl),.agg [.int .i64 2,.int .i64 0]]),h):=by
 apply Wp.eq;rw[z141];refine Wp.gc ?_
 suffices hK:Wp (z76 (z14 n d) n [.int .i64 k,z12 u] h) fun r h'=>r=.ret (.tup [.agg (z25 0 zeroW .nsl),.agg [.int .i64 2,.int .i64 0]])∧Tch [] h h' from hK.mono fun r h' ⟨e,t⟩=>⟨t.above,by rw[e];rfl,e,rfl⟩
 unfold z76;have Mx:=Mem.nil [] h
 repeat(first|(with_reducible apply Wp.obind;first|exact z5 _ _|exact ze _ _ _)|((with_reducible apply y14 Mx);rfl)|((with_reducible apply y11 Mx);rfl;rfl;(rfl);clear Mx;intro _ Mx)|((with_reducible apply y1a Mx);rfl)|((with_reducible apply y1c Mx);rfl;rfl;(rfl);clear Mx;intro _ Mx)|((with_reducible apply y1d Mx);rfl)|((with_reducible apply yc Mx);clear Mx;intro _ Mx)|((with_reducible apply y16 Mx);(rfl);clear Mx;intro _ Mx)|(with_reducible first|refine y5 (fun _ _=>?_)|refine Wp.lett ?_)|((with_reducible refine y8 ?_ ?_;apply zab);omega)|(with_reducible refine yd (by assumption) ?_)|rw[z8])
 exact Wp.ret ⟨rfl,Mx.tch⟩
theorem z498(l:64<u.length){kind:Int}(hk:kind=1∨kind=2∨kind=3):z14 n (d+1) 13 [.agg [.int .i64 kind,z12 u]] h=some (.ret (.tup [.agg (z25 0 zeroW .nsl),.agg [.int .i64 3,.int .i64 64]]),h):=by
 rcases hk with rfl|rfl|rfl
 ·apply Wp.eq
  rw[z141];refine Wp.gc ?_
  suffices hK:Wp (z76 (z14 n d) n [.int .i64 1,z12 u] h) fun r h'=>r=.ret (.tup [.agg (z25 0 zeroW .nsl),.agg [.int .i64 3,.int .i64 64]])∧Tch [] h h' from hK.mono fun r h' ⟨e,t⟩=>⟨t.above,by rw[e];rfl,e,rfl⟩
  unfold z76;have ll:=z1b u;have Mx:=Mem.nil [] h
  repeat(first|(with_reducible apply Wp.obind;first|exact z5 _ _|exact z34 _|exact ze _ _ _)|((with_reducible apply y14 Mx);rfl)|((with_reducible apply y11 Mx);rfl;rfl;(rfl);clear Mx;intro _ Mx)|((with_reducible apply y1a Mx);rfl)|((with_reducible apply y1c Mx);rfl;rfl;(rfl);clear Mx;intro _ Mx)|((with_reducible apply y1d Mx);rfl)|((with_reducible apply yc Mx);clear Mx;intro _ Mx)|((with_reducible apply y16 Mx);(rfl);clear Mx;intro _ Mx)|(with_reducible first|refine y5 (fun _ _=>?_)|refine Wp.lett ?_)|((with_reducible refine y8 ?_ ?_);((with_reducible first|apply decide_eq_true|apply zab);omega))|((with_reducible refine y7 ?_ ?_);first|(with_reducible rfl)|((with_reducible apply zc9);omega))|(with_reducible refine yd (by assumption) ?_)|rw[z8])
  exact Wp.ret ⟨rfl,Mx.tch⟩
 ·apply Wp.eq
  rw[z141];refine Wp.gc ?_
  suffices hK:Wp (z76 (z14 n d) n [.int .i64 2,z12 u] h) fun r h'=>r=.ret (.tup [.agg (z25 0 zeroW .nsl),.agg [.int .i64 3,.int .i64 64]])∧Tch [] h h' from hK.mono fun r h' ⟨e,t⟩=>⟨t.above,by rw[e];rfl,e,rfl⟩
  unfold z76;have ll:=z1b u;have Mx:=Mem.nil [] h
  repeat(first|(with_reducible apply Wp.obind;first|exact z5 _ _|exact z34 _|exact ze _ _ _)|((with_reducible apply y14 Mx);rfl)|((with_reducible apply y11 Mx);rfl;rfl;(rfl);clear Mx;intro _ Mx)|((with_reducible apply y1a Mx);rfl)|((with_reducible apply y1c Mx);rfl;rfl;(rfl);clear Mx;intro _ Mx)|((with_reducible apply y1d Mx);rfl)|((with_reducible apply yc Mx);clear Mx;intro _ Mx)|((with_reducible apply y16 Mx);(rfl);clear Mx;intro _ Mx)|(with_reducible first|refine y5 (fun _ _=>?_)|refine Wp.lett ?_)|((with_reducible refine y8 ?_ ?_);((with_reducible first|apply decide_eq_true|apply zab);omega))|((with_reducible refine y7 ?_ ?_);first|(with_reducible rfl)|((with_reducible apply zc9);omega))|(with_reducible refine yd (by assumption) ?_)|rw[z8])
  exact Wp.ret ⟨rfl,Mx.tch⟩
 ·apply Wp.eq
  rw[z141];refine Wp.gc ?_
  suffices hK:Wp (z76 (z14 n d) n [.int .i64 3,z12 u] h) fun r h'=>r=.ret (.tup [.agg (z25 0 zeroW .nsl),.agg [.int .i64 3,.int .i64 64]])∧Tch [] h h' from hK.mono fun r h' ⟨e,t⟩=>⟨t.above,by rw[e];rfl,e,rfl⟩
  unfold z76;have ll:=z1b u;have Mx:=Mem.nil [] h
  repeat(first|(with_reducible apply Wp.obind;first|exact z5 _ _|exact z34 _|exact ze _ _ _)|((with_reducible apply y14 Mx);rfl)|((with_reducible apply y11 Mx);rfl;rfl;(rfl);clear Mx;intro _ Mx)|((with_reducible apply y1a Mx);rfl)|((with_reducible apply y1c Mx);rfl;rfl;(rfl);clear Mx;intro _ Mx)|((with_reducible apply y1d Mx);rfl)|((with_reducible apply yc Mx);clear Mx;intro _ Mx)|((with_reducible apply y16 Mx);(rfl);clear Mx;intro _ Mx)|(with_reducible first|refine y5 (fun _ _=>?_)|refine Wp.lett ?_)|((with_reducible refine y8 ?_ ?_);((with_reducible first|apply decide_eq_true|apply zab);omega))|((with_reducible refine y7 ?_ ?_;apply zc9);omega)|(with_reducible refine yd (by assumption) ?_)|rw[z8])
  exact Wp.ret ⟨rfl,Mx.tch⟩
theorem z449(hl:u.length≤64)(hn:300<n){k:Int}{r:Except Nat Nd}(tp:TreeP u k r){D:Nat}(hD:300≤D)(hx:z7a z17 h.ex=false):OutT h (z14 n (D+1) 13 [.agg [.int .i64 k,z12 u]] h) r:=by
 rw[z141];refine OutT.gc ?_;unfold z76;have ll:=z1b u;have Mx:=Mem.nil [] h;obtain⟨D,rfl⟩:∃D',D=D'+2:=⟨D - 2,by omega⟩;have fin3:∀{t:Nd} {j:Nat},AltP u [] 0 (.ok (t,j))→∀{H:AHeap},z7a z17 H.ex=false→OutN H (z14 n (D+2) 30 [z12 u,.int .i64 ((0:Nat):Int)] H) (.ok (t,j)):=fun a H hH=>z257 (by omega) (altM (by omega) hn (by omega) a (Nat.zero_le _)) (by omega) hH
 cases tp with
 |lit a=>
  repeat(first|(with_reducible apply Wp.obind;first|exact z5 _ _|exact z34 _|exact ze _ _ _)|((with_reducible apply y1d Mx);rfl)|((with_reducible apply yc Mx);clear Mx;intro _ Mx)|((with_reducible apply y16 Mx);(rfl);clear Mx;intro _ Mx)|(with_reducible first|refine y5 (fun _ _=>?_)|refine Wp.lett ?_)|((with_reducible refine y8 ?_ ?_);((with_reducible first|apply decide_eq_true|apply zab|apply z28);omega))|((with_reducible refine y7 ?_ ?_);first|(with_reducible rfl)|((with_reducible first|apply decide_eq_false|apply zc9);omega))|(with_reducible refine yd (by assumption) ?_)|rw[z8])
  obtain⟨t,c,T,H',hr,e,kt,M2⟩:=lit_w (n:=n) (d:=D) (by omega) (by omega) (by rw[Mx.ex];exact hx) a;refine Wp.callN e (Wp.obind (z13 _) ?_);have M3:=y31 (xs:=[]) (ys:=[]) Mx M2;refine y1c M3 kt.len rfl kt.one fun _ M4=>?_;refine y11 M4 rfl rfl rfl fun _ M5=>?_;refine y1a M5 kt.len (y14 M5 rfl ?_);rw[hr];exact Wp.ret ⟨c,T,rfl,kt,M5.pop.pop.pop⟩
 |glob a=>
  repeat(first|(with_reducible apply Wp.obind;first|exact z5 _ _|exact z34 _|exact ze _ _ _)|((with_reducible apply y1d Mx);rfl)|((with_reducible apply yc Mx);clear Mx;intro _ Mx)|((with_reducible apply y16 Mx);(rfl);clear Mx;intro _ Mx)|(with_reducible first|refine y5 (fun _ _=>?_)|refine Wp.lett ?_)|((with_reducible refine y8 ?_ ?_);((with_reducible first|apply decide_eq_true|apply zab|apply z28);omega))|((with_reducible refine y7 ?_ ?_);first|(with_reducible rfl)|((with_reducible first|apply decide_eq_false|apply zc9|apply z2e);omega))|(with_reducible refine yd (by assumption) ?_)|rw[z8])
  have og:=glob_w (n:=n) (d:=D) (by omega) hn (by omega) (by rw[Mx.ex];exact hx) a
  generalize z29a _=r' at og
  cases r' with
  |error q=>
   obtain⟨hq,e⟩:=og;subst hq;refine Wp.callN e ?_
   repeat(first|(with_reducible apply Wp.obind;first|exact z6 _|exact z34 _|exact ze _ _ _)|((with_reducible apply y11 Mx);rfl;rfl;(rfl);clear Mx;intro _ Mx)|((with_reducible apply y1a Mx);rfl)|((with_reducible apply y1c Mx);rfl;rfl;(rfl);clear Mx;intro _ Mx)|((with_reducible apply y2e Mx);rfl)|((with_reducible apply y29 Mx);rfl;rfl;(rfl);clear Mx;intro _ Mx)|((with_reducible apply y55 Mx);rfl)|((with_reducible apply yc Mx);clear Mx;intro _ Mx)|(with_reducible first|refine Wp.lett ?_|(apply Wp.obind;first|exact z13 _|exact za0 _ _|exact z9f _ _ _)|(refine y8 ?_ ?_;exact Bool.not_false)|(apply Wp.callN;exact badT_w _))|rw[z8])
   exact Wp.ret ⟨rfl,Mx.tch⟩
  |ok t=>
   obtain⟨c,T,H',e,kt,M2⟩:=og;refine Wp.callN e ?_;have M3:=y31 (xs:=[]) (ys:=[]) Mx M2;refine Wp.obind (za0 _ _) (Wp.obind (z13 _) (Wp.obind (z9f _ _ _) (Wp.obind (z6 _) ?_)));refine yc M3 fun h4 M4=>?_;rw[z8];refine y11 M4 kt.len rfl kt.one fun h5 M5=>?_;refine Wp.lett (y7 rfl ?_);refine y14 M5 kt.len ?_;refine y29 M5 kt.len rfl kt.one fun _ M6=>?_;refine y1c M6 rfl rfl rfl fun _ M7=>?_;refine y2e M7 kt.len (y1a M7 rfl ?_);exact Wp.ret ⟨c,T,rfl,kt,M7.pop.pop.pop.pop⟩
 |re_bad a=>
  repeat(first|(with_reducible apply Wp.obind;first|exact z5 _ _|exact z34 _|exact ze _ _ _)|((with_reducible apply y1d Mx);rfl)|((with_reducible apply yc Mx);clear Mx;intro _ Mx)|((with_reducible apply y16 Mx);(rfl);clear Mx;intro _ Mx)|(with_reducible first|refine y5 (fun _ _=>?_)|refine Wp.lett ?_)|((with_reducible refine y8 ?_ ?_);((with_reducible first|apply decide_eq_true|apply zab|apply z28);omega))|((with_reducible refine y7 ?_ ?_);((with_reducible first|apply decide_eq_false|apply zc9|apply z2e);omega))|(with_reducible refine yd (by assumption) ?_)|rw[z8])
  have oa:=z257 (n:=n) (D:=D+2) (by omega) (altM (by omega) hn (by omega) a (Nat.zero_le _)) (by omega) (show z7a z17 _=false by rw[Mx.ex];exact hx);refine y46 oa ?_
  repeat(first|(with_reducible apply Wp.obind;first|exact z5 _ _|exact z6 _)|((with_reducible apply y11 Mx);rfl;rfl;(rfl);clear Mx;intro _ Mx)|((with_reducible apply y1a Mx);rfl)|((with_reducible apply y1c Mx);rfl;rfl;(rfl);clear Mx;intro _ Mx)|((with_reducible apply y2e Mx);rfl)|((with_reducible apply y29 Mx);rfl;rfl;(rfl);clear Mx;intro _ Mx)|((with_reducible apply yc Mx);clear Mx;intro _ Mx)|(with_reducible first|refine y5 (fun _ _=>?_)|refine Wp.lett ?_|(apply Wp.obind;first|exact z13 _|exact za0 _ _|exact z9f _ _ _|exact z129 _ _ _ _)|(refine y8 ?_ ?_;first|rfl|exact Bool.not_false)|(apply Wp.callN;exact badT_w _)|refine yd (by assumption) ?_)|rw[z8])
  exact Wp.ret ⟨rfl,Mx.tch⟩
 |re_end a ne=>
  rename_i t j;obtain⟨_,bj⟩:=z140 a (Nat.zero_le _)
  repeat(first|(with_reducible apply Wp.obind;first|exact z5 _ _|exact z34 _|exact ze _ _ _)|((with_reducible apply y1d Mx);rfl)|((with_reducible apply yc Mx);clear Mx;intro _ Mx)|((with_reducible apply y16 Mx);(rfl);clear Mx;intro _ Mx)|(with_reducible first|refine y5 (fun _ _=>?_)|refine Wp.lett ?_)|((with_reducible refine y8 ?_ ?_);((with_reducible first|apply decide_eq_true|apply zab|apply z28);omega))|((with_reducible refine y7 ?_ ?_);((with_reducible first|apply decide_eq_false|apply zc9|apply z2e);omega))|(with_reducible refine yd (by assumption) ?_)|rw[z8])
  refine y3f (fin3 a (by rw[Mx.ex];exact hx)) Mx fun c T h3 kt M3=>?_;refine Wp.obind (za0 _ _) (Wp.obind (z13 _) (Wp.obind (z9f _ _ _) (Wp.obind (z5 _ _) (Wp.obind (z129 _ _ _ _) (Wp.obind (z6 _) ?_)))));refine yc M3 fun h4 M4=>?_;rw[z8];refine y11 M4 kt.len rfl kt.one fun h5 M5=>?_;clear Mx;have Mx:=M5
  repeat(first|(with_reducible apply Wp.obind;first|exact z34 _|exact ze _ _ _)|((with_reducible apply y1a Mx);rfl)|((with_reducible apply y1c Mx);rfl;rfl;(rfl);clear Mx;intro _ Mx)|((with_reducible apply y2e Mx);rfl)|((with_reducible apply y29 Mx);rfl;rfl;(rfl);clear Mx;intro _ Mx)|((with_reducible apply y55 Mx);rfl)|(with_reducible first|refine y5 (fun _ _=>?_)|refine Wp.lett ?_|(apply Wp.obind;exact z13 _))|((with_reducible refine y8 ?_ ?_;apply decide_eq_true);omega)|(with_reducible first|(refine y7 ?_ ?_;exact Bool.not_true)|(apply Wp.callN;exact badT_w _)|refine yd (by assumption) ?_))
  exact Wp.ret ⟨rfl,Mx.tch⟩
 |re a=>
  repeat(first|(with_reducible apply Wp.obind;first|exact z5 _ _|exact z34 _|exact ze _ _ _)|((with_reducible apply y1d Mx);rfl)|((with_reducible apply yc Mx);clear Mx;intro _ Mx)|((with_reducible apply y16 Mx);(rfl);clear Mx;intro _ Mx)|(with_reducible first|refine y5 (fun _ _=>?_)|refine Wp.lett ?_)|((with_reducible refine y8 ?_ ?_);((with_reducible first|apply decide_eq_true|apply zab|apply z28);omega))|((with_reducible refine y7 ?_ ?_);((with_reducible first|apply decide_eq_false|apply zc9|apply z2e);omega))|(with_reducible refine yd (by assumption) ?_)|rw[z8])
  refine y3f (fin3 a (by rw[Mx.ex];exact hx)) Mx fun c T h3 kt M3=>?_;refine Wp.obind (za0 _ _) (Wp.obind (z13 _) (Wp.obind (z9f _ _ _) (Wp.obind (z5 _ _) (Wp.obind (z129 _ _ _ _) (Wp.obind (z6 _) ?_)))));refine yc M3 fun h4 M4=>?_;rw[z8];refine y11 M4 kt.len rfl kt.one fun h5 M5=>?_;clear Mx;have Mx:=M5;clear M5
  repeat(first|(with_reducible apply Wp.obind;first|exact z34 _|exact ze _ _ _)|((with_reducible apply y55 Mx);rfl)|(with_reducible first|refine y5 (fun _ _=>?_)|refine Wp.lett ?_)|((with_reducible refine y7 ?_ ?_);first|(with_reducible exact Bool.not_true)|((with_reducible apply decide_eq_false);omega))|(with_reducible refine yd (by assumption) ?_))
  refine y14 Mx kt.len ?_;refine y29 Mx kt.len rfl kt.one fun _ M6=>?_;refine y1c M6 rfl rfl rfl fun _ M7=>?_;refine y2e M7 kt.len (y1a M7 rfl ?_);exact Wp.ret ⟨c,T,rfl,kt,M7.pop.pop.pop.pop⟩
end
open Go.RowKit Abs
open Go.RowKit Abs
theorem z464{F:Nat→Res}{u:z11}(hF:∀i t j,F i=.ok (t,j)→z337 t≤1∧i<j){l:List Nd}{i:Nat}{r:Res}(k:FlatP F u l i r):∀t,z29a r=.ok t→z337 t≤z278 l+(u.length - i):=by
 induction k with
 |stop s=>
  intro t e
  cases e
  exact Nat.le_trans (z2e0 (by decide) _) (Nat.le_add_right _ _)
 |bad s h=>
  intro t e
  cases e
 |more s h m ih=>
  intro t e;have h1:=ih t e;obtain⟨h2,h3⟩:=hF _ _ _ h;rw[z1ec] at h1;omega
theorem treeP_cnt{k:Int}{u:z11}{t:Nd}(h:TreeP u k (.ok t)):z337 t≤u.length:=by
 generalize hr:Except.ok t=r at h
 cases h with
 |lit a=>
  have:=z464 (F:=z23f u) (fun i t j h=>by
   unfold z23f at h
   split at h
   ·cases h
   ·cases h
    exact⟨Nat.le_refl _,by omega⟩) a t hr.symm
  rw[z278] at this;omega
 |glob a=>
  have:=z464 (F:=z21b u) (fun i t j h=>by
   unfold z21b at h
   split at h
   ·cases h
   split at h
   ·cases h
    exact⟨Nat.le_refl _,by omega⟩
   split at h
   ·cases h
    exact⟨Nat.le_refl _,by omega⟩
   split at h
   ·split at h
    ·cases h
    ·cases h
     exact⟨Nat.le_refl _,by omega⟩
   ·cases h
    exact⟨Nat.le_refl _,by omega⟩) a t hr.symm
  rw[z278] at this;omega
 |re_bad a=>cases hr
 |re_end a ne=>cases hr
 |re a=>
  cases hr;exact re_cnt a
theorem z4ae{t:Nd}(hc:z337 t≤64)(s:z11):z6a (z1a5 t) s (fun j=>decide (j=0)) s.length=z19f (z7f t) s:=by
 refine z92 ?_;rw[z49,z272 (z43d hc)]
 have e:seg s 0 s.length=s.map UInt8.toNat:=by
  unfold seg;rw[List.drop_zero,Nat.sub_zero,List.take_length]
 constructor
 ·rintro ⟨i, _, hi, h⟩
  rw[decide_eq_true_eq] at hi;subst hi;rw[e] at h;exact h
 ·exact fun h=>⟨0,Nat.zero_le _,rfl,by rw[e];exact h⟩
theorem fits_w{t:Nd}{c:List AV}{T:List z9e}{n D:Nat}{s:z11}{h:AHeap}(k1:z2fe t)(kt:NodeT t c T)(r:RowsAt h T)(hD:2*t.sz+3≤D)(hn:t.sz+1000<n)(hz:t.sz<1000000)(hl:s.length<900)(hx:z7a TBo h.ex=false):
  z14 n (D+1) 15 [.agg c,z12 s] h=some (.ret (.bool (z6a (z1a5 t) s (fun j=>decide (j=0)) s.length)),h):=by
 apply Wp.eq;rw[z39e];refine Wp.gc ?_
 suffices hK:Wp (z12c (z14 n D) n c s h) fun r h'=>r=.ret (.bool (z6a (z1a5 t) s (fun j=>decide (j=0)) s.length))∧Tch [] h h' from hK.mono fun r h' ⟨e,t⟩=>⟨t.above,by rw[e];rfl,e,rfl⟩
 obtain⟨D,rfl⟩:∃D',D=D'+1:=⟨D - 1,by omega⟩;unfold z12c;have ll:=z1b s;have M:=Mem.nil [] h;refine y16 M kt.one fun h1 M1=>?_;refine y14 M1 kt.len ?_;obtain⟨v2,h2,e2,k2,t2⟩:=start_r (n:=n) (d:=D) (h:=h1) (s:=s) (by omega) (by rw[M1.ex];exact hx);refine Wp.callN e2 ?_;have y2:z15 h2 6 (.ptr h.next 0)=some c:=(M1.at0.1.tch t2 M1.at0.2.1 (by simp)).ldAll kt.len;refine Wp.chk (z1a4 (z183 (by kernel_rfl) (by kernel_rfl) y2) rfl) ?_;obtain⟨v3,h3,e3,k3,t3⟩:=ends_ok t (n:=n) (D:=D+1) (s:=s) k1 kt r hD hn hz hl hx _ v2 h2 (M1.tch.trans t2) k2;refine Wp.callN e3 ?_;obtain⟨p,i1,c1⟩:=k3.idx (i:=s.length) (by omega);rw[←ll] at i1
 repeat(((with_reducible apply Wp.obind);(with_reducible first|exact i1|exact c1|exact z6 _)))
 exact Wp.ret ⟨rfl,(M1.tch.trans t2).trans t3⟩
theorem both10(k:Int)(u:z11){n D:Nat}(hn:18446744073709551620<n)(hD:1000≤D):
  (∃e q:Int,e≠0∧∀h:AHeap,z7a z17 h.ex=false→world n (D+3+1) 12 [.agg [.int .i64 k,z12 u]] h=some (.ret (.tup [.nilp,.int .i64 2]),h)∧z14 n (D+3+1) 13 [.agg [.int .i64 k,z12 u]] h=some (.ret (.tup [.agg (z25 0 zeroW .nsl),.agg [.int .i64 e,.int .i64 q]]),h))∨
  ∃t,u.length≤64∧TreeP u k (.ok t)∧∀h:AHeap,z7a z17 h.ex=false→(∃nb h',world n (D+3+1) 12 [.agg [.int .i64 k,z12 u]] h=some (.ret (.tup [.ptr nb 0,.int .i64 0]),h')∧Abs.Mem [] h h' [(nb,TNet,netC (z7f t))])∧OutT h (z14 n (D+3+1) 13 [.agg [.int .i64 k,z12 u]] h) (.ok t):=by
 by_cases hk:k=1∨k=2∨k=3
 ·by_cases hl : 64 < u.length
  ·exact .inl ⟨3,64,by decide,fun h hx=>⟨of_bad (e1:=3) (q:=64) (by decide) (fun h hx=>tree_long hl hk) hx,z498 hl hk⟩⟩
  ·obtain ⟨r, r1, _, r3⟩ := (z314 (u := u) (by omega) hk).2 (by omega)
   cases r with
   |error q=>exact .inl ⟨6,(q:Int),by decide,fun h hx=>⟨of_bad (e1:=6) (q:=(q:Int)) (by decide) (fun h hx=>r3 (by omega) (by omega) hx) hx,z449 (by omega) (by omega) r1 (by omega) hx⟩⟩
   |ok t=>
    have hz:=z1a8 r1;exact .inr ⟨t,by omega,r1,fun h hx=>⟨of_ok (z25e r1) (by omega) (by omega) hn (fun h hx=>r3 (by omega) (by omega) hx) hx,z449 (by omega) (by omega) r1 (by omega) hx⟩⟩
 ·exact .inl ⟨2,0,by decide,fun h hx=>⟨of_bad (e1:=2) (q:=0) (by decide) (fun h hx=>tree_kind hk) hx,z403 (fun e=>hk (.inl e)) (fun e=>hk (.inr (.inl e))) (fun e=>hk (.inr (.inr e)))⟩⟩
def Reach(N:Nt)(q:Nat):Prop:=someB N q∧∃(s:List Nat) (q':Nat),(∀c∈s,c<256)∧Walk (z36d N) q s q'∧N.last.testBit q'=true
theorem z4a2{N:Nt}{live:Nat}(h:∀q,live.testBit q=true→Reach N q):∀q,(z17f N.fo (orF N.ta 256) live).testBit q=true→Reach N q:=by
 intro q hq;unfold z17f at hq;rw[z24a,Nat.testBit_and,Bool.and_eq_true,Bool.and_eq_true,z1f1,z2c8] at hq;obtain⟨⟨⟨_,r,he,hr⟩,hs⟩,_⟩:=hq;obtain⟨⟨c,hc,hk⟩,s,q',h1,w,hl⟩:=h r hr;refine⟨hs,c::s,q',fun x hx=>?_,Walk.cons (a:=z36d N) he hk w,hl⟩
 rcases List.mem_cons.1 hx with rfl|hx
 ·exact hc
 ·exact h1 x hx
theorem z2db{N:Nt}:∀(f live more:Nat),(∀q,live.testBit q=true→Reach N q)→∀q,(z298 N.fo (orF N.ta 256) f live more).testBit q=true→Reach N q
 |0,_,_,h=>h
 |f+1,live,more,h=>by
  rw[z298]
  split
  ·exact h
  ·refine z2db f _ _ fun q hq => ?_
   rw[Nat.testBit_or,Bool.or_eq_true] at hq
   rcases hq with hq|hq
   ·exact h q hq
   ·exact z4a2 h q hq
theorem z329{N:Nt}{q:Nat}(h:N.live.testBit q=true):Reach N q:=by
 unfold Nt.live at h;refine z2db _ _ _ (fun q hq=>?_) q h;rw[Nat.testBit_and,Bool.and_eq_true,z2c8] at hq;exact⟨hq.2,[],q,(fun c hc=>nomatch hc),Walk.nil,hq.1⟩
theorem z2a6:∀(l:List Nat),(∀c∈l,c<256)→∃u:z11,u.map UInt8.toNat=l
 |[],_=>⟨[],rfl⟩
 |c::l,h=>by
  obtain⟨u,hu⟩:=z2a6 l fun x hx=>h x (List.mem_cons_of_mem _ hx);refine⟨UInt8.ofNat c::u,?_⟩;rw[List.map_cons,hu,UInt8.toNat_ofNat_of_lt' (h c List.mem_cons_self)]
section
variable {N:Nt}(k:NtOk N)
include k
theorem step_live{st:Bool×Nat}{c:Nat}(hc:c<256){q:Nat}(h:(stepN N.trim st c).2.testBit q=true):N.live.testBit q=true:=by
 have he:(stepN N.trim st c).2=(if st.1=true then N.trim.behind st.2 else N.trim.first)&&&N.trim.ta.getD c 0:=by unfold stepN;rfl
 rw[he,Nat.testBit_and,Bool.and_eq_true] at h;exact((z313 k hc).1 h.2).2
theorem run_live(s:z11):∀{st:Bool×Nat},(st.1=true→∀q,st.2.testBit q=true→N.live.testBit q=true)→s≠[]∨st.1=true→∀q,(z1ac N.trim st s).2.testBit q=true→N.live.testBit q=true:=by
 induction s with
 |nil=>exact fun h hs q hq=>h (hs.resolve_left (fun h=>h rfl)) q hq
 |cons c s ih=>
  intro st h _ q hq
  have hr:z1ac N.trim st (c::s)=z1ac N.trim (stepN N.trim st c.toNat) s:=by
   unfold z1ac;rw[List.foldl_cons]
  rw[hr] at hq;exact ih (fun _ q hq=>step_live k c.toNat_lt hq) (.inr rfl) q hq
end
end Go.Proofs.YtakhljnkmbpmpaaDoor
