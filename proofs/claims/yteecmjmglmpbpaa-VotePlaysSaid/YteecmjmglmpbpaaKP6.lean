/- What votePlays_proved stands on, part 6 of 10. -/
import Derived.Test.YteecmjmglmpbpaaKP5
namespace Go.Proofs.Yteecmjmglmpbpaa
open Go.RowKit Abs
noncomputable def z152(_:z11)(_:Nat)(h:AHeap):R:=outK (zba h 62 (some (.agg ([.bool false,.str 0 0,.nsl,.bool false,.str 0 0,.nsl,.bool false,.str 0 0,.nsl,.bool false,.str 0 0,.nsl,.bool false,.str 0 0,.nsl,.bool false,.str 0 0,.nsl,.bool false,.str 0 0,.nsl,.bool false,.str 0 0,.nsl,.bool false,.str 0 0,.nsl,.bool false,.str 0 0,.nsl,.bool false,.str 0 0,.nsl,.bool false,.str 0 0,.nsl,.bool false,.str 0 0,.nsl,.bool false,.str 0 0,.nsl,.bool false,.str 0 0,.nsl,.bool false,.str 0 0,.nsl,.bool false,.str 0 0,.nsl,.bool false,.str 0 0,.nsl,.bool false,.str 0 0,.nsl,.bool false,.str 0 0,.nsl,.bool false,.str 0 0,.nsl,.bool false,.str 0 0,.nsl,.bool false,.str 0 0,.nsl,.bool false,.str 0 0,.nsl,.bool false,.str 0 0,.nsl,.bool false,.str 0 0,.nsl,.bool false,.str 0 0,.nsl,.bool false,.str 0 0,.nsl,.bool false,.str 0 0,.nsl,.bool false,.str 0 0,.nsl,.bool false,.str 0 0,.nsl,.bool false,.str 0 0,.nsl,.int .i64 (-1),.int .i64 0]:List AV)))) fun v2 h_3=>some (.ret (v2),h_3)
set_option maxHeartbeats 4000000 in
set_option maxRecDepth 20000 in
theorem z395{call:z11}(_:SaysAll Try.prog call){n:Nat}{h:AHeap}{rR:ARes}{hR:AHeap}(hF:z152 call n h=some (rR,hR)):Says Try.prog 20 [] h rR hR:=by
 unfold z152 at hF;refine sO Try.func20 fun w0 m0=>?_;refine wW [] ?_;refine oG fun n1=>W.r ?_;refine oA 0 AV.nilp ?_;refine oV [] (n1 ?_);refine oG fun n2=>W.r ?_;refine oA 1 (.agg ([.bool false,.str 0 0,.nsl,.bool false,.str 0 0,.nsl,.bool false,.str 0 0,.nsl,.bool false,.str 0 0,.nsl,.bool false,.str 0 0,.nsl,.bool false,.str 0 0,.nsl,.bool false,.str 0 0,.nsl,.bool false,.str 0 0,.nsl,.bool false,.str 0 0,.nsl,.bool false,.str 0 0,.nsl,.bool false,.str 0 0,.nsl,.bool false,.str 0 0,.nsl,.bool false,.str 0 0,.nsl,.bool false,.str 0 0,.nsl,.bool false,.str 0 0,.nsl,.bool false,.str 0 0,.nsl,.bool false,.str 0 0,.nsl,.bool false,.str 0 0,.nsl,.bool false,.str 0 0,.nsl,.bool false,.str 0 0,.nsl,.bool false,.str 0 0,.nsl,.bool false,.str 0 0,.nsl,.bool false,.str 0 0,.nsl,.bool false,.str 0 0,.nsl,.bool false,.str 0 0,.nsl,.bool false,.str 0 0,.nsl,.bool false,.str 0 0,.nsl,.bool false,.str 0 0,.nsl,.bool false,.str 0 0,.nsl,.bool false,.str 0 0,.nsl,.bool false,.str 0 0,.nsl,.bool false,.str 0 0,.nsl,.int .i64 (-1),.int .i64 0]:List AV)) ?_;refine oK 2 hF fun v2 h_3 hF=>?_;refine oA 0 v2 ?_;refine oV [(0,v2)] (n2 (oY ?_));exact lZ hF [.tmp 0] [v2] (rT zc)
noncomputable def z6a(call:z11)(_:Nat)(t0:AV)(t1:Int)(t2:List AV)(h:AHeap):R:=outK (zba h 53 (some (.agg t2))) fun v5 h_2=>callN (call 47 [t0,.int .i64 t1] h_2) fun r12 h_5=>obind (z132 r12) fun t12=>lett (newH h_5 56 [.bool false,.str 0 0]) fun h_8=>obind (z27 h_8 2 t12 (z1a h_5)) fun h_10=>obind (z20 0 v5) fun t14=>obind (z9 h_10 t14) fun v15=>obind (z17 .i64 v15) fun t15=>lett ((t15:Int) == 1) fun (t16:Bool)=>lett (fun (t8:Int) (h_21:AHeap)=>callN (call 48 [t0,.int .i64 t1,.int .i64 t8] h_21) fun r49 h_23=>obind (z17 .i64 r49) fun t49=>lett ((t49:Int) == 0) fun (t51:Bool)=>lett (fun (h_30:AHeap)=>some (.ret (.int .i64 t49),h_30)) fun k29=>ifB t51 (obind (z34 t0) fun t55=>obind (z20 0 t55) fun t56=>obind (z17b 32 3 t56 t1) fun t57=>obind (z20 2 t57) fun t58=>obind (z9 h_23 t58) fun v59=>outK (z41 Try.prog h_23 57 57 AV.nsl v59) fun v60 h_39=>obind (z2b h_39 3 v5) fun t64=>obind (z34 t0) fun t67=>obind (z20 0 t67) fun t68=>outK (z178 Try.prog h_39 57 1 [(0,.agg t64)]) fun v65 h_44=>outK (z41 Try.prog h_44 57 57 v60 v65) fun v66 h_46=>obind (z17b 32 3 t68 t1) fun t69=>obind (z20 2 t69) fun t70=>obind (z27 h_46 1 (AV.cells v66) t70) fun h_50=>k29 h_50) (k29 h_23)) fun k20=>ifB t16 (obind (z20 1 v5) fun t17=>obind (z9 h_10 t17) fun v18=>obind (z31 v18) fun t18=>obind (z9 h_10 (AV.ptr (AHeap.next h_5) 1)) fun v21=>obind (z31 v21) fun t21=>lett (IntKind.i64.wrap (1048576 - (z7e t21))) fun (t23:Int)=>lett (decide ((z7e t18)>t23)) fun (t24:Bool)=>lett (fun (t8_61:Int) (h_62:AHeap)=>k20 t8_61 h_62) fun k60=>ifB t24 (k60 8 h_10) (k60 0 h_10)) (obind (z9 h_10 (AV.ptr (AHeap.next h_5) 0)) fun v27=>obind (z2f v27) fun t27=>lett (!t27) fun (t28:Bool)=>lett (fun (t8_68:Int) (h_69:AHeap)=>k20 t8_68 h_69) fun k67=>ifB t28 (k67 4 h_10) (obind (z20 0 v5) fun t30=>obind (z9 h_10 t30) fun v31=>obind (z17 .i64 v31) fun t31=>lett ((t31:Int) == 2) fun (t32:Bool)=>lett (fun (t45:Bool) (h_75:AHeap)=>lett (fun (t8_79:Int) (h_80:AHeap)=>k67 t8_79 h_80) fun k78=>ifB t45 (k78 5 h_75) (k78 0 h_75)) fun j45=>ifB t32 (obind (z20 2 v5) fun t34=>obind (z9 h_10 t34) fun v35=>obind (z17 .i64 v35) fun t35=>lett (decide (t35<0)) fun (t36:Bool)=>lett (fun (t44:Bool) (h_85:AHeap)=>j45 t44 h_85) fun j44=>ifB t36 (j44 true h_10) (obind (z20 2 v5) fun t38=>obind (z9 h_10 t38) fun v39=>obind (z17 .i64 v39) fun t39=>obind (z9 h_10 (AV.ptr (AHeap.next h_5) 1)) fun v41=>obind (z31 v41) fun t41=>lett (decide (t39>(z7e t41))) fun (t43:Bool)=>j44 t43 h_10)) (j45 false h_10)))
set_option maxHeartbeats 4000000 in
set_option maxRecDepth 20000 in
theorem z1cb{call:z11}(hc:SaysAll Try.prog call){n:Nat}{t0:AV}{t1:Int}{t2:List AV}{h:AHeap}{rR:ARes}{hR:AHeap}(hF:z6a call n t0 t1 t2 h=some (rR,hR)):Says Try.prog 23 [t0,.int .i64 t1,.agg t2] h rR hR:=by
 unfold z6a at hF;refine sO Try.func23 fun w0 m0=>?_;refine wW [(0,t0),(1,.int .i64 t1),(2,.agg t2)] ?_;refine oG fun n1=>W.r ?_;refine oK 5 hF fun v5 h_2 hF=>?_;refine oA 6 (.int .i64 0) ?_;refine oV [(0,t0),(1,.int .i64 t1),(5,v5)] (n1 ?_);refine oG fun n4=>W.r ?_;refine oA 10 t0 ?_;refine oA 11 (.int .i64 t1) ?_;refine oCa hc 12 hF fun t12 h_5 hF=>?_;refine oN 7 hF fun h_8 hF=>?_;refine oW 56 (.agg t12) hF fun h_10 hF=>?_;refine oV [(0,t0),(1,.int .i64 t1),(5,v5),(7,(z1a h_5))] (n4 ?_);refine oG fun n12=>W.r ?_;refine oA 8 (.int .i64 0) ?_;refine oV [(0,t0),(1,.int .i64 t1),(5,v5),(7,(z1a h_5)),(8,.int .i64 0)] (n12 ?_);refine oG fun n13=>?_;refine W.blockK (by kernel_rfl) (fun K14 n14 s14 o14 q14 p14=>?_);refine oG fun n15=>W.r ?_;refine oF 14 53 0 hF fun t14 hF=>?_;refine oLi 15 3 hF fun t15 hF=>?_;refine oB 16 hF fun t16 hF=>?_;refine oA 13 (.bool t16) ?_;refine oV [(0,t0),(1,.int .i64 t1),(5,v5),(7,(z1a h_5)),(8,.int .i64 0),(13,.bool t16)] (n15 ?_);obtain⟨k20,e20,hF⟩:=z7 hF
 have J20:∀(t8:Int) (h_21:AHeap),k20 t8 h_21=some (rR,hR)→Go w0 m0 (Func.ntmps Try.f23) (K14 .normal) [(0,t0),(1,.int .i64 t1),(5,v5),(8,.int .i64 t8)] [] h_21:=by
  intro t8 h_21 hF;rw[e20] at hF;refine n14 (n13 ?_);refine oG fun n22=>W.r ?_;refine oA 46 t0 ?_;refine oA 47 (.int .i64 t1) ?_;refine oA 48 (.int .i64 t8) ?_;refine oCi hc 49 hF fun t49 h_23 hF=>?_;refine oA 8 (.int .i64 t49) ?_;refine oV [(0,t0),(1,.int .i64 t1),(5,v5),(8,.int .i64 t49)] (n22 ?_);refine W.s (fun K26 n26 e26 q26 p26=>?_);refine oG fun n27=>W.r ?_;refine oA 50 (.int .i64 t49) ?_;refine oB 51 hF fun t51 hF=>?_;refine oV [(0,t0),(1,.int .i64 t1),(5,v5),(8,.int .i64 t49),(51,.bool t51)] (n27 ?_);obtain⟨k29,e29,hF⟩:=z7 hF
  have J29:∀(h_30:AHeap),k29 h_30=some (rR,hR)→Go w0 m0 (Func.ntmps Try.f23) (K26 .normal) [(8,.int .i64 t49)] [] h_30:=by
   intro h_30 hF;rw[e29] at hF;refine n26 ?_;refine oG fun n31=>W.r ?_;refine oA 71 (.int .i64 t49) ?_;refine oA 6 (.int .i64 t49) ?_;refine oV [(6,.int .i64 t49)] (n31 (oY ?_));exact lZ hF [.tmp 6] [.int .i64 t49] (rT zc)
  cases t51 with
  |true=>
   refine oT hF fun hF=>?_;refine oG fun n32=>W.r ?_;refine oA 9 AV.nsl ?_;refine oV [(0,t0),(1,.int .i64 t1),(5,v5),(8,.int .i64 t49),(9,AV.nsl)] (n32 ?_);refine oG fun n33=>W.r ?_;refine oA 52 AV.nsl ?_;refine oA 53 t0 ?_;refine oA 54 (.int .i64 t1) ?_;refine oC0 55 hF fun t55 hF=>?_;refine oF 56 62 0 hF fun t56 hF=>?_;refine oQ 57 60 59 .i64 hF fun t57 hF=>?_;refine oF 58 59 1 hF fun t58 hF=>?_;refine oL 59 57 hF fun v59 hF=>?_;refine oK 60 hF fun v60 h_39 hF=>?_;refine oA 9 v60 ?_;refine oV [(0,t0),(1,.int .i64 t1),(5,v5),(8,.int .i64 t49),(9,v60)] (n33 ?_);refine y12 (by kernel_rfl) (hc.ok w0) (plan:=[0,1,2,3,6,7,4,5,8,9,10]) (by kernel_rfl) (by kernel_rfl) (by kernel_rfl) ?_;refine WD.a 0 (some 61) t0 h_39 ?_;refine WD.a 0 (some 62) (.int .i64 t1) h_39 ?_;refine WD.a 0 (some 63) v60 h_39 ?_;obtain⟨t64,e41,hF⟩:=z4 hF;refine WD.b 1 (some 64) (.agg t64) h_39 (z36 (P:=Try.prog) (h:=h_39) (t:=53) (by kernel_rfl) (by kernel_rfl) e41) ?_;obtain⟨t67,e42,hF⟩:=z4 hF;refine WD.b 0 (some 67) t67 h_39 (z1f (h:=h_39) e42) ?_;obtain⟨t68,e43,hF⟩:=z4 hF;refine WD.b 0 (some 68) t68 h_39 (z10 (P:=Try.prog) (h:=h_39) (s:=62) (f:=0) (by kernel_rfl) e43) ?_;obtain⟨v65,h_44,e45,hF⟩:=z26 hF;refine WD.val (d:=(some 65)) (v:=v65) (h':=h_44) (by kernel_rfl) (by kernel_rfl) (Eq.trans (by kernel_rfl) e45) (k:=2) (by kernel_rfl) (fun _=>(by kernel_rfl)) (by decide) ?_;obtain⟨v66,h_46,e47,hF⟩:=z26 hF;refine WD.val (d:=(some 66)) (v:=v66) (h':=h_46) (by kernel_rfl) (by kernel_rfl) (Eq.trans (by kernel_rfl) e47) (k:=2) (by kernel_rfl) (fun _=>(by kernel_rfl)) (by decide) ?_;obtain⟨t69,e48,hF⟩:=z4 hF;refine WD.b 0 (some 69) t69 h_46 (z99 (P:=Try.prog) (h:=h_46) (t:=60) (e':=59) (k:=.i64) (by kernel_rfl) (by kernel_rfl) (by kernel_rfl) e48) ?_;obtain⟨t70,e49,hF⟩:=z4 hF;refine WD.b 0 (some 70) t70 h_46 (z10 (P:=Try.prog) (h:=h_46) (s:=59) (f:=1) (by kernel_rfl) e49) ?_;obtain⟨h_50,e51,hF⟩:=z4 hF;refine WD.eff (h':=h_50) (by kernel_rfl) (by kernel_rfl) (Eq.trans (by kernel_rfl) (z2c (P:=Try.prog) (h:=h_46) (t:=57) (v:=v66) (by kernel_rfl) (by kernel_rfl) e51)) (k:=2) (by kernel_rfl) (fun _=>(by kernel_rfl)) (by decide) ?_;refine WD.nil ?_;refine gW [(8,.int .i64 t49)] ?_;exact gW _ (J29 _ hF)
  |false=>
   refine oU hF fun hF=>?_;refine oZ ?_;exact gW _ (J29 _ hF)
 cases t16 with
 |true=>
  refine oT hF fun hF=>?_;refine oG fun n52=>W.r ?_;refine oF 17 53 1 hF fun t17 hF=>?_;refine oLs 18 9 hF fun t18 hF=>?_;refine oA 19 (.int .i64 (z7e t18)) ?_;refine oA 20 (AV.ptr (AHeap.next h_5) 1) ?_;refine oLs 21 9 hF fun t21 hF=>?_;refine oA 22 (.int .i64 (z7e t21)) ?_;refine oI 23 .i64 hF fun t23 hF=>?_;refine oB 24 hF fun t24 hF=>?_;refine oV [(0,t0),(1,.int .i64 t1),(5,v5),(8,.int .i64 0),(24,.bool t24)] (n52 ?_);obtain⟨k60,e60,hF⟩:=z7 hF
  have J60:∀(t8_61:Int) (h_62:AHeap),k60 t8_61 h_62=some (rR,hR)→Go w0 m0 (Func.ntmps Try.f23) (K14 .normal) [(0,t0),(1,.int .i64 t1),(5,v5),(8,.int .i64 t8_61)] [] h_62:=by
   intro t8_61 h_62 hF;rw[e60] at hF;exact gW _ (J20 _ _ hF)
  cases t24 with
  |true=>
   refine oT hF fun hF=>?_;refine W.r ?_;refine oA 8 (.int .i64 8) ?_;refine oV [(0,t0),(1,.int .i64 t1),(5,v5),(8,.int .i64 8)] ?_;exact gW _ (J60 _ _ hF)
  |false=>
   refine oU hF fun hF=>?_;refine oZ ?_;exact gW _ (J60 _ _ hF)
 |false=>
  refine oU hF fun hF=>?_;refine oG fun n63=>W.r ?_;refine oA 26 (AV.ptr (AHeap.next h_5) 0) ?_;refine oLb 27 4 hF fun t27 hF=>?_;refine oB 28 hF fun t28 hF=>?_;refine oA 25 (.bool t28) ?_;refine oV [(0,t0),(1,.int .i64 t1),(5,v5),(7,(z1a h_5)),(8,.int .i64 0),(25,.bool t28)] (n63 ?_);obtain⟨k67,e67,hF⟩:=z7 hF
  have J67:∀(t8_68:Int) (h_69:AHeap),k67 t8_68 h_69=some (rR,hR)→Go w0 m0 (Func.ntmps Try.f23) (K14 .normal) [(0,t0),(1,.int .i64 t1),(5,v5),(8,.int .i64 t8_68)] [] h_69:=by
   intro t8_68 h_69 hF;rw[e67] at hF;exact gW _ (J20 _ _ hF)
  cases t28 with
  |true=>
   refine oT hF fun hF=>?_;refine W.r ?_;refine oA 8 (.int .i64 4) ?_;refine oV [(0,t0),(1,.int .i64 t1),(5,v5),(8,.int .i64 4)] ?_;exact gW _ (J67 _ _ hF)
  |false=>
   refine oU hF fun hF=>?_;refine W.s (fun K70 n70 e70 q70 p70=>?_);refine W.r ?_;refine oF 30 53 0 hF fun t30 hF=>?_;refine oLi 31 3 hF fun t31 hF=>?_;refine oB 32 hF fun t32 hF=>?_;refine oA 33 (.bool t32) ?_;obtain⟨j45,e76,hF⟩:=z7 hF
   have J77:∀(t45:Bool) (h_75:AHeap),j45 t45 h_75=some (rR,hR)→WL Try.prog w0 m0 (Func.ntmps Try.f23) (Code.ops (y6 (y4 (y4 (y4 (y4 (y6 (y6 (y4 (y4 (y4 (z3d Try.f23)))))))))))) 16 K70 [(0,t0),(1,.int .i64 t1),(5,v5),(8,.int .i64 0),(45,.bool t45)] [] h_75:=by
    intro t45 h_75 hF;rw[e76] at hF;refine oA 29 (.bool t45) ?_;refine oV [(0,t0),(1,.int .i64 t1),(5,v5),(8,.int .i64 0),(29,.bool t45)] (n70 ?_);obtain⟨k78,e78,hF⟩:=z7 hF
    have J78:∀(t8_79:Int) (h_80:AHeap),k78 t8_79 h_80=some (rR,hR)→Go w0 m0 (Func.ntmps Try.f23) (K14 .normal) [(0,t0),(1,.int .i64 t1),(5,v5),(8,.int .i64 t8_79)] [] h_80:=by
     intro t8_79 h_80 hF;rw[e78] at hF;exact gW _ (J67 _ _ hF)
    cases t45 with
    |true=>
     refine oT hF fun hF=>?_;refine W.r ?_;refine oA 8 (.int .i64 5) ?_;refine oV [(0,t0),(1,.int .i64 t1),(5,v5),(8,.int .i64 5)] ?_;exact gW _ (J78 _ _ hF)
    |false=>
     refine oU hF fun hF=>?_;refine oZ ?_;exact gW _ (J78 _ _ hF)
   cases t32 with
   |true=>
    replace hF:=z53 hF
    refine oF 34 53 2 hF fun t34 hF=>?_;refine oLi 35 3 hF fun t35 hF=>?_;refine oB 36 hF fun t36 hF=>?_;refine oA 37 (.bool t36) ?_;obtain⟨j44,e86,hF⟩:=z7 hF
    have J87:∀(t44:Bool) (h_85:AHeap),j44 t44 h_85=some (rR,hR)→WL Try.prog w0 m0 (Func.ntmps Try.f23) (Code.ops (y6 (y4 (y4 (y4 (y4 (y6 (y6 (y4 (y4 (y4 (z3d Try.f23)))))))))))) 15 K70 [(0,t0),(1,.int .i64 t1),(5,v5),(8,.int .i64 0),(33,.bool true),(44,.bool t44)] [] h_85:=by
     intro t44 h_85 hF;rw[e86] at hF;refine oA 45 (.bool t44) ?_;exact lW _ (J77 _ _ hF)
    cases t36 with
    |true=>
     replace hF:=z53 hF
     refine WL.o (some 38) ?_;refine WL.o (some 39) ?_;refine WL.o (some 40) ?_;refine WL.o (some 41) ?_;refine WL.o (some 42) ?_;refine WL.o (some 43) ?_;refine oA 44 (.bool true) ?_;exact lW _ (J87 _ _ hF)
    |false=>
     replace hF:=z54 hF
     refine oF 38 53 2 hF fun t38 hF=>?_;refine oLi 39 3 hF fun t39 hF=>?_;refine oA 40 (AV.ptr (AHeap.next h_5) 1) ?_;refine oLs 41 9 hF fun t41 hF=>?_;refine oA 42 (.int .i64 (z7e t41)) ?_;refine oB 43 hF fun t43 hF=>?_;refine oA 44 (.bool t43) ?_;exact lW _ (J87 _ _ hF)
   |false=>
    replace hF:=z54 hF
    refine WL.o (some 34) ?_;refine WL.o (some 35) ?_;refine WL.o (some 36) ?_;refine WL.o (some 37) ?_;refine WL.o (some 38) ?_;refine WL.o (some 39) ?_;refine WL.o (some 40) ?_;refine WL.o (some 41) ?_;refine WL.o (some 42) ?_;refine WL.o (some 43) ?_;refine WL.o (some 44) ?_;refine oA 45 (.bool false) ?_;exact lW _ (J77 _ _ hF)
noncomputable def z95(call:z11)(_:Nat)(t0:AV)(t1:Int)(h:AHeap):R:=callN (call 48 [t0,.int .i64 t1,.int .i64 0] h) fun r8 h_3=>obind (z17 .i64 r8) fun t8=>lett ((t8:Int) == 0) fun (t10:Bool)=>lett (fun (h_10:AHeap)=>some (.ret (.int .i64 t8),h_10)) fun k9=>ifB t10 (obind (z34 t0) fun t15=>obind (z20 0 t15) fun t16=>obind (z17b 32 3 t16 t1) fun t17=>obind (z2b h_3 3 t17) fun t18=>obind (z34 t0) fun t21=>obind (z20 0 t21) fun t22=>callN (call 65 [.agg t18] h_3) fun r19 h_18=>obind (z132 r19) fun t19=>obind (z36d Try.prog 59 [(0,.agg t19)]) fun t20=>obind (z17b 32 3 t22 t1) fun t23=>obind (z27 h_18 3 t20 t23) fun h_23=>k9 h_23) (k9 h_3)
set_option maxHeartbeats 4000000 in
set_option maxRecDepth 20000 in
theorem z213{call:z11}(hc:SaysAll Try.prog call){n:Nat}{t0:AV}{t1:Int}{h:AHeap}{rR:ARes}{hR:AHeap}(hF:z95 call n t0 t1 h=some (rR,hR)):Says Try.prog 44 [t0,.int .i64 t1] h rR hR:=by
 unfold z95 at hF;refine sO Try.func44 fun w0 m0=>?_;refine wW [(0,t0),(1,.int .i64 t1)] ?_;refine oG fun n1=>W.r ?_;refine oA 4 (.int .i64 0) ?_;refine oV [(0,t0),(1,.int .i64 t1)] (n1 ?_);refine oG fun n2=>W.r ?_;refine oA 6 t0 ?_;refine oA 7 (.int .i64 t1) ?_;refine oCi hc 8 hF fun t8 h_3 hF=>?_;refine oA 5 (.int .i64 t8) ?_;refine oV [(0,t0),(1,.int .i64 t1),(5,.int .i64 t8)] (n2 ?_);refine W.s (fun K6 n6 e6 q6 p6=>?_);refine oG fun n7=>W.r ?_;refine oA 9 (.int .i64 t8) ?_;refine oB 10 hF fun t10 hF=>?_;refine oV [(0,t0),(1,.int .i64 t1),(5,.int .i64 t8),(10,.bool t10)] (n7 ?_);obtain⟨k9,e9,hF⟩:=z7 hF
 have J9:∀(h_10:AHeap),k9 h_10=some (rR,hR)→Go w0 m0 (Func.ntmps Try.f44) (K6 .normal) [(5,.int .i64 t8)] [] h_10:=by
  intro h_10 hF;rw[e9] at hF;refine n6 ?_;refine oG fun n11=>W.r ?_;refine oA 24 (.int .i64 t8) ?_;refine oA 4 (.int .i64 t8) ?_;refine oV [(4,.int .i64 t8)] (n11 (oY ?_));exact lZ hF [.tmp 4] [.int .i64 t8] (rT zc)
 cases t10 with
 |true=>
  refine oT hF fun hF=>?_;refine y12 (by kernel_rfl) (hc.ok w0) (plan:=[0,1,2,3,4,5,6,7,10,11,8,9,12,13]) (by kernel_rfl) (by kernel_rfl) (by kernel_rfl) ?_;refine WD.a 0 (some 11) t0 h_3 ?_;refine WD.a 0 (some 12) (.int .i64 t1) h_3 ?_;refine WD.a 0 (some 13) t0 h_3 ?_;refine WD.a 0 (some 14) (.int .i64 t1) h_3 ?_;obtain⟨t15,e12,hF⟩:=z4 hF;refine WD.b 0 (some 15) t15 h_3 (z1f (h:=h_3) e12) ?_;obtain⟨t16,e13,hF⟩:=z4 hF;refine WD.b 0 (some 16) t16 h_3 (z10 (P:=Try.prog) (h:=h_3) (s:=62) (f:=0) (by kernel_rfl) e13) ?_;obtain⟨t17,e14,hF⟩:=z4 hF;refine WD.b 0 (some 17) t17 h_3 (z99 (P:=Try.prog) (h:=h_3) (t:=60) (e':=59) (k:=.i64) (by kernel_rfl) (by kernel_rfl) (by kernel_rfl) e14) ?_;obtain⟨t18,e15,hF⟩:=z4 hF;refine WD.b 1 (some 18) (.agg t18) h_3 (z36 (P:=Try.prog) (h:=h_3) (t:=59) (by kernel_rfl) (by kernel_rfl) e15) ?_;obtain⟨t21,e16,hF⟩:=z4 hF;refine WD.b 0 (some 21) t21 h_3 (z1f (h:=h_3) e16) ?_;obtain⟨t22,e17,hF⟩:=z4 hF;refine WD.b 0 (some 22) t22 h_3 (z10 (P:=Try.prog) (h:=h_3) (s:=62) (f:=0) (by kernel_rfl) e17) ?_
  replace hF:=z18 hF;obtain⟨r19,h_18,e19,hF⟩:=hF
  replace hF:=z4 hF;obtain⟨t19,c20,hF⟩:=hF
  have c20:=zb9 c20;subst c20;refine WD.call (d:=(some 19)) (by kernel_rfl) (by kernel_rfl) (by kernel_rfl) e19 (k:=2) (by kernel_rfl) (fun _=>(by kernel_rfl)) (by decide) ?_;obtain⟨t20,e21,hF⟩:=z4 hF;refine WD.val (d:=(some 20)) (v:=.agg t20) (h':=h_18) (by kernel_rfl) (by kernel_rfl) (z1ac (by kernel_rfl) e21) (k:=0) (by kernel_rfl) (fun e=>absurd e (by decide)) (by decide) ?_;obtain⟨t23,e22,hF⟩:=z4 hF;refine WD.b 0 (some 23) t23 h_18 (z99 (P:=Try.prog) (h:=h_18) (t:=60) (e':=59) (k:=.i64) (by kernel_rfl) (by kernel_rfl) (by kernel_rfl) e22) ?_;obtain⟨h_23,e24,hF⟩:=z4 hF;refine WD.eff (h':=h_23) (by kernel_rfl) (by kernel_rfl) (Eq.trans (by kernel_rfl) (z2c (P:=Try.prog) (h:=h_18) (t:=59) (v:=(.agg t20)) (by kernel_rfl) (by kernel_rfl) e24)) (k:=2) (by kernel_rfl) (fun _=>(by kernel_rfl)) (by decide) ?_;refine WD.nil ?_;refine gW [(5,.int .i64 t8)] ?_;exact gW _ (J9 _ hF)
 |false=>
  refine oU hF fun hF=>?_;refine oZ ?_;exact gW _ (J9 _ hF)
noncomputable def z62(call:z11)(h_11:AHeap)(v29:AV)(t9_48:Int)(k53:AHeap→R)(self:Int→AHeap→R)(t10:Int)(h_117:AHeap):R:=lett (decide (t10<t9_48)) fun (t53:Bool)=>ifB t53 (obind (z2b h_117 2 (z1a h_11)) fun t56=>obind (z18d 3 v29 t10) fun t59=>obind (z2b h_117 3 t59) fun t60=>callN (call 50 [.agg t56,.agg t60] h_117) fun r61 h_126=>obind (z132 r61) fun t61=>obind (z27 h_126 2 t61 (z1a h_11)) fun h_129=>lett (IntKind.i64.wrap (t10+1)) fun (t55:Int)=>self t55 h_129) (k53 h_117)
noncomputable def z5a(call:z11)(h_11:AHeap)(v29:AV)(t9_48:Int)(k53:AHeap→R):Nat→Int→AHeap→R:=z130 (fun _ _=>none) (z62 call h_11 v29 t9_48 k53)
theorem zc2(call:z11)(h_11:AHeap)(v29:AV)(t9_48:Int)(k53:AHeap→R)(m:Nat):z5a call h_11 v29 t9_48 k53 (m+1)=z62 call h_11 v29 t9_48 k53 (z5a call h_11 v29 t9_48 k53 m):=rfl
noncomputable def z63(call:z11)(n:Nat)(t0:AV)(t1:AV)(t2:Int)(k4:AHeap→R)(self:Int→AHeap→R)(t6:Int)(h_11:AHeap):R:=lett (decide (t6<32)) fun (t13:Bool)=>ifB t13 (obind (z34 t0) fun t18=>obind (z20 0 t18) fun t19=>obind (z17b 32 3 t19 t6) fun t20=>obind (z20 0 t20) fun t21=>obind (z2b h_11 2 t21) fun t22=>lett (newH h_11 56 [.bool false,.str 0 0]) fun h_23=>obind (z27 h_23 2 t22 (z1a h_11)) fun h_25=>obind (z34 t0) fun t25=>obind (z20 0 t25) fun t26=>obind (z17b 32 3 t26 t6) fun t27=>obind (z20 2 t27) fun t28=>obind (z9 h_25 t28) fun v29=>obind (z197 t1) fun t32=>lett (decide (t6<t32)) fun (t33:Bool)=>lett (fun (t40:Bool) (h_38:AHeap)=>lett (fun (t9:Int) (h_42:AHeap)=>obind (z197 v29) fun t47=>lett (decide (t9>t47)) fun (t48:Bool)=>lett (fun (t9_48:Int) (h_49:AHeap)=>lett (fun (h_54:AHeap)=>obind (z197 v29) fun t64=>lett (decide (t9_48<t64)) fun (t65:Bool)=>lett (fun (t73:Bool) (h_59:AHeap)=>lett (fun (t82:Bool) (h_62:AHeap)=>lett (fun (t86:Bool) (h_65:AHeap)=>lett (fun (h_69:AHeap)=>obind (z2b h_69 2 (z1a h_11)) fun t116=>obind (z36d Try.prog 59 [(0,.agg t116)]) fun t117=>obind (z34 t0) fun t118=>obind (z20 0 t118) fun t119=>obind (z17b 32 3 t119 t6) fun t120=>obind (z27 h_69 3 t117 t120) fun h_75=>lett (IntKind.i64.wrap (t6+1)) fun (t15:Int)=>self t15 h_75) fun k68=>ifB t86 (obind (z18d 3 v29 t9_48) fun t91=>obind (z20 1 t91) fun t92=>obind (z9 h_65 t92) fun v93=>obind (z31 v93) fun t93=>lett (IntKind.i64.wrap ((z7e t93) - 1)) fun (t95:Int)=>lett (decide (t2>t95)) fun (t96:Bool)=>lett (fun (t11:Int) (h_88:AHeap)=>obind (z2b h_88 2 (z1a h_11)) fun t104=>obind (z18d 3 v29 t9_48) fun t107=>obind (z20 1 t107) fun t108=>obind (z9 h_88 t108) fun v109=>obind (z31 v109) fun t109=>obind (z5f t109 0 t11) fun t111=>callN (call 50 [.agg t104,.agg ([.int .i64 1,ze t111,.int .i64 0]:List AV)] h_88) fun r113 h_95=>obind (z132 r113) fun t113=>obind (z27 h_95 2 t113 (z1a h_11)) fun h_98=>k68 h_98) fun k87=>ifB t96 (obind (z18d 3 v29 t9_48) fun t99=>obind (z20 1 t99) fun t100=>obind (z9 h_65 t100) fun v101=>obind (z31 v101) fun t101=>lett (IntKind.i64.wrap ((z7e t101) - 1)) fun (t103:Int)=>k87 t103 h_65) (k87 t2 h_65)) (k68 h_65)) fun j86=>ifB t82 (lett (decide (t2>0)) fun (t85:Bool)=>j86 t85 h_62) (j86 false h_62)) fun j82=>ifB t73 (obind (z18d 3 v29 t9_48) fun t77=>obind (z20 1 t77) fun t78=>obind (z9 h_59 t78) fun v79=>obind (z31 v79) fun t79=>lett (decide ((z7e t79)>0)) fun (t81:Bool)=>j82 t81 h_59) (j82 false h_59)) fun j73=>ifB t65 (obind (z18d 3 v29 t9_48) fun t69=>obind (z20 0 t69) fun t70=>obind (z9 h_54 t70) fun v71=>obind (z17 .i64 v71) fun t71=>lett ((t71:Int) == 1) fun (t72:Bool)=>j73 t72 h_54) (j73 false h_54)) fun k53=>z5a call h_11 v29 t9_48 k53 n 0 h_49) fun k47=>ifB t48 (obind (z197 v29) fun t50=>k47 t50 h_42) (k47 t9 h_42)) fun k41=>ifB t40 (obind (z18d 1 t1 t6) fun t43=>obind (z9 h_38 t43) fun v44=>obind (z17 .i64 v44) fun t44=>k41 t44 h_38) (k41 0 h_38)) fun j40=>ifB t33 (obind (z18d 1 t1 t6) fun t37=>obind (z9 h_25 t37) fun v38=>obind (z17 .i64 v38) fun t38=>lett (decide (t38>0)) fun (t39:Bool)=>j40 t39 h_25) (j40 false h_25)) (k4 h_11)
noncomputable def z49(call:z11)(n:Nat)(t0:AV)(t1:AV)(t2:Int)(k4:AHeap→R):Nat→Int→AHeap→R:=z130 (fun _ _=>none) (z63 call n t0 t1 t2 k4)
theorem zc3(call:z11)(n:Nat)(t0:AV)(t1:AV)(t2:Int)(k4:AHeap→R)(m:Nat):z49 call n t0 t1 t2 k4 (m+1)=z63 call n t0 t1 t2 k4 (z49 call n t0 t1 t2 k4 m):=rfl
noncomputable def z7d(call:z11)(n:Nat)(t0:AV)(t1:AV)(t2:Int)(h:AHeap):R:=lett (fun (h_5:AHeap)=>obind (z34 t0) fun t122=>obind (z20 96 t122) fun t123=>obind (z27 h_5 1 [.int .i64 (-1)] t123) fun h_8=>some (.ret (.tup []),h_8)) fun k4=>z49 call n t0 t1 t2 k4 n 0 h
set_option maxHeartbeats 4000000 in
set_option maxRecDepth 20000 in
theorem z1e6{call:z11}(hc:SaysAll Try.prog call){n:Nat}{t0:AV}{t1:AV}{t2:Int}{h:AHeap}{rR:ARes}{hR:AHeap}(hF:z7d call n t0 t1 t2 h=some (rR,hR)):Says Try.prog 25 [t0,t1,.int .i64 t2] h rR hR:=by
 unfold z7d at hF;refine sO Try.func25 fun w0 m0=>?_;refine wW [(0,t0),(1,t1),(2,.int .i64 t2)] ?_;refine W.s (fun K1 n1 e1 q1 p1=>?_);refine oG fun n2=>W.r ?_;refine oA 6 (.int .i64 0) ?_;refine oV [(0,t0),(1,t1),(2,.int .i64 t2),(6,.int .i64 0)] (n2 ?_);obtain⟨k4,e4,hF⟩:=z7 hF
 have J4:∀(h_5:AHeap),k4 h_5=some (rR,hR)→Go w0 m0 (Func.ntmps Try.f25) (K1 .normal) [(0,t0)] [] h_5:=by
  intro h_5 hF;rw[e4] at hF;refine n1 (W.r ?_);refine oA 121 t0 ?_;refine oC0 122 hF fun t122 hF=>?_;refine oF 123 62 1 hF fun t123 hF=>?_;refine oW 3 (.int .i64 (-1)) hF fun h_8 hF=>?_;refine oV [] ?_;exact lY hF [] [] zc
 refine W.blockK (by kernel_rfl) (fun K3 n3 s3 o3 q3 p3=>?_);refine W.loopK (by kernel_rfl) (fun I10 K10 b10 n10 e10 q10 p10=>?_)
 have L10:∀(m:Nat) (t6:Int) (h_11:AHeap),z49 call n t0 t1 t2 k4 m t6 h_11=some (rR,hR)→Go w0 m0 (Func.ntmps Try.f25) I10 [(0,t0),(1,t1),(2,.int .i64 t2),(6,.int .i64 t6)] [] h_11:=by
  intro m
  induction m with
  |zero=>intro t6 h_11 hF;cases hF
  |succ m ih10=>
   intro t6 h_11 hF;rw[zc3] at hF;unfold z63 at hF;refine b10 ?_;refine W.s (fun K12 n12 e12 q12 p12=>?_);refine oG fun n13=>W.r ?_;refine oA 12 (.int .i64 t6) ?_;refine oB 13 hF fun t13 hF=>?_;refine oV [(0,t0),(1,t1),(2,.int .i64 t2),(6,.int .i64 t6),(13,.bool t13)] (n13 ?_)
   cases t13 with
   |true=>
    refine oT hF fun hF=>?_;refine oZ (n12 ?_);refine oG fun n15=>?_;refine W.blockK (by kernel_rfl) (fun K16 n16 s16 o16 q16 p16=>?_);refine oG fun n17=>W.r ?_;refine oA 16 t0 ?_;refine oA 17 (.int .i64 t6) ?_;refine oC0 18 hF fun t18 hF=>?_;refine oF 19 62 0 hF fun t19 hF=>?_;refine oQ 20 60 59 .i64 hF fun t20 hF=>?_;refine oF 21 59 0 hF fun t21 hF=>?_;refine oR 22 56 hF fun t22 hF=>?_;refine oN 7 hF fun h_23 hF=>?_;refine oW 56 (.agg t22) hF fun h_25 hF=>?_;refine oV [(0,t0),(1,t1),(2,.int .i64 t2),(6,.int .i64 t6),(7,(z1a h_11))] (n17 ?_);refine oG fun n27=>W.r ?_;refine oA 23 t0 ?_;refine oA 24 (.int .i64 t6) ?_;refine oC0 25 hF fun t25 hF=>?_;refine oF 26 62 0 hF fun t26 hF=>?_;refine oQ 27 60 59 .i64 hF fun t27 hF=>?_;refine oF 28 59 1 hF fun t28 hF=>?_;refine oL 29 57 hF fun v29 hF=>?_;refine oA 8 v29 ?_;refine oV [(0,t0),(1,t1),(2,.int .i64 t2),(6,.int .i64 t6),(7,(z1a h_11)),(8,v29)] (n27 ?_);refine oG fun n33=>W.r ?_;refine oA 9 (.int .i64 0) ?_;refine oV [(0,t0),(1,t1),(2,.int .i64 t2),(6,.int .i64 t6),(7,(z1a h_11)),(8,v29),(9,.int .i64 0)] (n33 ?_);refine W.s (fun K34 n34 e34 q34 p34=>?_);refine W.s (fun K35 n35 e35 q35 p35=>?_);refine W.r ?_;refine oA 30 (.int .i64 t6) ?_;refine oA 31 t1 ?_;refine oM 32 32 3 hF fun t32 hF=>?_;refine oB 33 hF fun t33 hF=>?_;refine oA 34 (.bool t33) ?_;obtain⟨j40,e39,hF⟩:=z7 hF
    have J40:∀(t40:Bool) (h_38:AHeap),j40 t40 h_38=some (rR,hR)→WL Try.prog w0 m0 (Func.ntmps Try.f25) (Code.ops (y6 (y6 (y4 (y4 (y4 (y6 (y6 (y4 (y6 (y6 (y4 (y6 (z3d Try.f25)))))))))))))) 11 K35 [(0,t0),(1,t1),(2,.int .i64 t2),(6,.int .i64 t6),(7,(z1a h_11)),(8,v29),(9,.int .i64 0),(40,.bool t40)] [] h_38:=by
     intro t40 h_38 hF;rw[e39] at hF;refine oV [(0,t0),(1,t1),(2,.int .i64 t2),(6,.int .i64 t6),(7,(z1a h_11)),(8,v29),(9,.int .i64 0),(40,.bool t40)] (n35 ?_);obtain⟨k41,e41,hF⟩:=z7 hF
     have J41:∀(t9:Int) (h_42:AHeap),k41 t9 h_42=some (rR,hR)→Go w0 m0 (Func.ntmps Try.f25) (K34 .normal) [(0,t0),(1,t1),(2,.int .i64 t2),(6,.int .i64 t6),(7,(z1a h_11)),(8,v29),(9,.int .i64 t9)] [] h_42:=by
      intro t9 h_42 hF;rw[e41] at hF;refine n34 ?_;refine W.s (fun K43 n43 e43 q43 p43=>?_);refine oG fun n44=>W.r ?_;refine oA 45 (.int .i64 t9) ?_;refine oA 46 v29 ?_;refine oM 47 57 53 hF fun t47 hF=>?_;refine oB 48 hF fun t48 hF=>?_;refine oV [(0,t0),(1,t1),(2,.int .i64 t2),(6,.int .i64 t6),(7,(z1a h_11)),(8,v29),(9,.int .i64 t9),(48,.bool t48)] (n44 ?_);obtain⟨k47,e47,hF⟩:=z7 hF
      have J47:∀(t9_48:Int) (h_49:AHeap),k47 t9_48 h_49=some (rR,hR)→Go w0 m0 (Func.ntmps Try.f25) (K43 .normal) [(0,t0),(1,t1),(2,.int .i64 t2),(6,.int .i64 t6),(7,(z1a h_11)),(8,v29),(9,.int .i64 t9_48)] [] h_49:=by
       intro t9_48 h_49 hF;rw[e47] at hF;refine n43 ?_;refine W.s (fun K50 n50 e50 q50 p50=>?_);refine oG fun n51=>W.r ?_;refine oA 10 (.int .i64 0) ?_;refine oV [(0,t0),(1,t1),(2,.int .i64 t2),(6,.int .i64 t6),(7,(z1a h_11)),(8,v29),(9,.int .i64 t9_48),(10,.int .i64 0)] (n51 ?_);obtain⟨k53,e53,hF⟩:=z7 hF
       have J53:∀(h_54:AHeap),k53 h_54=some (rR,hR)→Go w0 m0 (Func.ntmps Try.f25) (K50 .normal) [(0,t0),(1,t1),(2,.int .i64 t2),(6,.int .i64 t6),(7,(z1a h_11)),(8,v29),(9,.int .i64 t9_48)] [] h_54:=by
        intro h_54 hF;rw[e53] at hF;refine n50 ?_;refine W.s (fun K55 n55 e55 q55 p55=>?_);refine W.s (fun K56 n56 e56 q56 p56=>?_);refine W.r ?_;refine oA 62 (.int .i64 t9_48) ?_;refine oA 63 v29 ?_;refine oM 64 57 53 hF fun t64 hF=>?_;refine oB 65 hF fun t65 hF=>?_;refine oA 66 (.bool t65) ?_;obtain⟨j73,e60,hF⟩:=z7 hF
        have J61:∀(t73:Bool) (h_59:AHeap),j73 t73 h_59=some (rR,hR)→WL Try.prog w0 m0 (Func.ntmps Try.f25) (Code.ops (y6 (y6 (y4 (y4 (y4 (y4 (y4 (y4 (y6 (y6 (y4 (y6 (y6 (y4 (y6 (z3d Try.f25))))))))))))))))) 12 K56 [(0,t0),(1,t1),(2,.int .i64 t2),(6,.int .i64 t6),(7,(z1a h_11)),(8,v29),(9,.int .i64 t9_48),(73,.bool t73)] [] h_59:=by
         intro t73 h_59 hF;rw[e60] at hF;refine oA 74 (.bool t73) ?_;obtain⟨j82,e63,hF⟩:=z7 hF
         have J64:∀(t82:Bool) (h_62:AHeap),j82 t82 h_62=some (rR,hR)→WL Try.prog w0 m0 (Func.ntmps Try.f25) (Code.ops (y6 (y6 (y4 (y4 (y4 (y4 (y4 (y4 (y6 (y6 (y4 (y6 (y6 (y4 (y6 (z3d Try.f25))))))))))))))))) 21 K56 [(0,t0),(1,t1),(2,.int .i64 t2),(6,.int .i64 t6),(7,(z1a h_11)),(8,v29),(9,.int .i64 t9_48),(82,.bool t82)] [] h_62:=by
          intro t82 h_62 hF;rw[e63] at hF;refine oA 83 (.bool t82) ?_;obtain⟨j86,e66,hF⟩:=z7 hF
          have J67:∀(t86:Bool) (h_65:AHeap),j86 t86 h_65=some (rR,hR)→WL Try.prog w0 m0 (Func.ntmps Try.f25) (Code.ops (y6 (y6 (y4 (y4 (y4 (y4 (y4 (y4 (y6 (y6 (y4 (y6 (y6 (y4 (y6 (z3d Try.f25))))))))))))))))) 25 K56 [(0,t0),(1,t1),(2,.int .i64 t2),(6,.int .i64 t6),(7,(z1a h_11)),(8,v29),(9,.int .i64 t9_48),(86,.bool t86)] [] h_65:=by
           intro t86 h_65 hF;rw[e66] at hF;refine oV [(0,t0),(1,t1),(2,.int .i64 t2),(6,.int .i64 t6),(7,(z1a h_11)),(8,v29),(9,.int .i64 t9_48),(86,.bool t86)] (n56 ?_);obtain⟨k68,e68,hF⟩:=z7 hF
           have J68:∀(h_69:AHeap),k68 h_69=some (rR,hR)→Go w0 m0 (Func.ntmps Try.f25) (K55 .normal) [(0,t0),(1,t1),(2,.int .i64 t2),(6,.int .i64 t6),(7,(z1a h_11))] [] h_69:=by
            intro h_69 hF;rw[e68] at hF;refine n55 ?_;refine y12 (by kernel_rfl) (hc.ok w0) (plan:=[0,1,2,3,4,5,6,7]) (by kernel_rfl) (by kernel_rfl) (by kernel_rfl) ?_;refine WD.a 0 (some 114) t0 h_69 ?_;refine WD.a 0 (some 115) (.int .i64 t6) h_69 ?_;obtain⟨t116,e70,hF⟩:=z4 hF;refine WD.b 1 (some 116) (.agg t116) h_69 (z36 (P:=Try.prog) (h:=h_69) (t:=56) (by kernel_rfl) (by kernel_rfl) e70) ?_;obtain⟨t117,e71,hF⟩:=z4 hF;refine WD.val (d:=(some 117)) (v:=.agg t117) (h':=h_69) (by kernel_rfl) (by kernel_rfl) (z1ac (by kernel_rfl) e71) (k:=0) (by kernel_rfl) (fun e=>absurd e (by decide)) (by decide) ?_;obtain⟨t118,e72,hF⟩:=z4 hF;refine WD.b 0 (some 118) t118 h_69 (z1f (h:=h_69) e72) ?_;obtain⟨t119,e73,hF⟩:=z4 hF;refine WD.b 0 (some 119) t119 h_69 (z10 (P:=Try.prog) (h:=h_69) (s:=62) (f:=0) (by kernel_rfl) e73) ?_;obtain⟨t120,e74,hF⟩:=z4 hF;refine WD.b 0 (some 120) t120 h_69 (z99 (P:=Try.prog) (h:=h_69) (t:=60) (e':=59) (k:=.i64) (by kernel_rfl) (by kernel_rfl) (by kernel_rfl) e74) ?_;obtain⟨h_75,e76,hF⟩:=z4 hF;refine WD.eff (h':=h_75) (by kernel_rfl) (by kernel_rfl) (Eq.trans (by kernel_rfl) (z2c (P:=Try.prog) (h:=h_69) (t:=59) (v:=(.agg t117)) (by kernel_rfl) (by kernel_rfl) e76)) (k:=2) (by kernel_rfl) (fun _=>(by kernel_rfl)) (by decide) ?_;refine WD.nil ?_;refine gW [(0,t0),(1,t1),(2,.int .i64 t2),(6,.int .i64 t6)] (n16 (n15 (W.r ?_)));refine oA 14 (.int .i64 t6) ?_;refine oI 15 .i64 hF fun t15 hF=>?_;refine oA 6 (.int .i64 t15) ?_;refine oV [(0,t0),(1,t1),(2,.int .i64 t2),(6,.int .i64 t15)] (n10 ?_);exact gW _ (ih10 _ _ hF)
           cases t86 with
           |true=>
            refine oT hF fun hF=>?_;refine oG fun n78=>W.r ?_;refine oA 87 (.int .i64 t2) ?_;refine oA 11 (.int .i64 t2) ?_;refine oV [(0,t0),(1,t1),(2,.int .i64 t2),(6,.int .i64 t6),(7,(z1a h_11)),(8,v29),(9,.int .i64 t9_48),(11,.int .i64 t2)] (n78 ?_);refine W.s (fun K79 n79 e79 q79 p79=>?_);refine oG fun n80=>W.r ?_;refine oA 88 (.int .i64 t2) ?_;refine oA 89 v29 ?_;refine oA 90 (.int .i64 t9_48) ?_;refine oP 91 57 53 .i64 hF fun t91 hF=>?_;refine oF 92 53 1 hF fun t92 hF=>?_;refine oLs 93 9 hF fun t93 hF=>?_;refine oA 94 (.int .i64 (z7e t93)) ?_;refine oI 95 .i64 hF fun t95 hF=>?_;refine oB 96 hF fun t96 hF=>?_;refine oV [(0,t0),(1,t1),(2,.int .i64 t2),(6,.int .i64 t6),(7,(z1a h_11)),(8,v29),(9,.int .i64 t9_48),(11,.int .i64 t2),(96,.bool t96)] (n80 ?_);obtain⟨k87,e87,hF⟩:=z7 hF
            have J87:∀(t11:Int) (h_88:AHeap),k87 t11 h_88=some (rR,hR)→Go w0 m0 (Func.ntmps Try.f25) (K79 .normal) [(0,t0),(1,t1),(2,.int .i64 t2),(6,.int .i64 t6),(7,(z1a h_11)),(8,v29),(9,.int .i64 t9_48),(11,.int .i64 t11)] [] h_88:=by
             intro t11 h_88 hF;rw[e87] at hF;refine n79 ?_;refine y12 (by kernel_rfl) (hc.ok w0) (plan:=[0,1,2,3,4,5,6,7,8,9,10]) (by kernel_rfl) (by kernel_rfl) (by kernel_rfl) ?_;obtain⟨t104,e89,hF⟩:=z4 hF;refine WD.b 1 (some 104) (.agg t104) h_88 (z36 (P:=Try.prog) (h:=h_88) (t:=56) (by kernel_rfl) (by kernel_rfl) e89) ?_;refine WD.a 0 (some 105) v29 h_88 ?_;refine WD.a 0 (some 106) (.int .i64 t9_48) h_88 ?_;obtain⟨t107,e90,hF⟩:=z4 hF;refine WD.b 0 (some 107) t107 h_88 (z228 (P:=Try.prog) (h:=h_88) (t:=57) (e':=53) (k:=.i64) (by kernel_rfl) (by kernel_rfl) (by kernel_rfl) e90) ?_;obtain⟨t108,e91,hF⟩:=z4 hF;refine WD.b 0 (some 108) t108 h_88 (z10 (P:=Try.prog) (h:=h_88) (s:=53) (f:=1) (by kernel_rfl) e91) ?_
             replace hF:=z4 hF;obtain⟨v109,e92,hF⟩:=hF
             replace hF:=z4 hF;obtain⟨t109,c93,hF⟩:=hF
             have c93:=z22 c93;subst c93;refine WD.b 1 (some 109) (ze t109) h_88 (z12 (P:=Try.prog) (h:=h_88) (t:=9) (by kernel_rfl) e92) ?_;refine WD.a 0 (some 110) (.int .i64 t11) h_88 ?_;obtain⟨t111,e94,hF⟩:=z4 hF;refine WD.b 0 (some 111) (ze t111) h_88 (z61 (P:=Try.prog) (h:=h_88) (t:=9) (A:=none) (B:=(some (.int .i64 t11))) (by kernel_rfl) (.inr ⟨rfl,rfl⟩) (.inl ⟨_,rfl⟩) e94) ?_;refine WD.a 0 (some 112) (.agg ([.int .i64 1,ze t111,.int .i64 0]:List AV)) h_88 ?_
             replace hF:=z18 hF;obtain⟨r113,h_95,e96,hF⟩:=hF
             replace hF:=z4 hF;obtain⟨t113,c97,hF⟩:=hF
             have c97:=zb9 c97;subst c97;refine WD.call (d:=(some 113)) (by kernel_rfl) (by kernel_rfl) (by kernel_rfl) e96 (k:=2) (by kernel_rfl) (fun _=>(by kernel_rfl)) (by decide) ?_;obtain⟨h_98,e99,hF⟩:=z4 hF;refine WD.eff (h':=h_98) (by kernel_rfl) (by kernel_rfl) (Eq.trans (by kernel_rfl) (z2c (P:=Try.prog) (h:=h_95) (t:=56) (v:=(.agg t113)) (by kernel_rfl) (by kernel_rfl) e99)) (k:=2) (by kernel_rfl) (fun _=>(by kernel_rfl)) (by decide) ?_;refine WD.nil ?_;refine gW [(0,t0),(1,t1),(2,.int .i64 t2),(6,.int .i64 t6),(7,(z1a h_11))] ?_;exact gW _ (J68 _ hF)
            cases t96 with
            |true=>
             refine oT hF fun hF=>?_;refine W.r ?_;refine oA 97 v29 ?_;refine oA 98 (.int .i64 t9_48) ?_;refine oP 99 57 53 .i64 hF fun t99 hF=>?_;refine oF 100 53 1 hF fun t100 hF=>?_;refine oLs 101 9 hF fun t101 hF=>?_;refine oA 102 (.int .i64 (z7e t101)) ?_;refine oI 103 .i64 hF fun t103 hF=>?_;refine oA 11 (.int .i64 t103) ?_;refine oV [(0,t0),(1,t1),(2,.int .i64 t2),(6,.int .i64 t6),(7,(z1a h_11)),(8,v29),(9,.int .i64 t9_48),(11,.int .i64 t103)] ?_;exact gW _ (J87 _ _ hF)
            |false=>
             refine oU hF fun hF=>?_;refine oZ ?_;exact gW _ (J87 _ _ hF)
           |false=>
            refine oU hF fun hF=>?_;refine oZ ?_;exact gW _ (J68 _ hF)
          cases t82 with
          |true=>
           replace hF:=z53 hF
           refine oA 84 (.int .i64 t2) ?_;refine oB 85 hF fun t85 hF=>?_;refine oA 86 (.bool t85) ?_;exact lW _ (J67 _ _ hF)
          |false=>
           replace hF:=z54 hF
           refine WL.o (some 84) ?_;refine WL.o (some 85) ?_;refine oA 86 (.bool false) ?_;exact lW _ (J67 _ _ hF)
         cases t73 with
         |true=>
          replace hF:=z53 hF
          refine oA 75 v29 ?_;refine oA 76 (.int .i64 t9_48) ?_;refine oP 77 57 53 .i64 hF fun t77 hF=>?_;refine oF 78 53 1 hF fun t78 hF=>?_;refine oLs 79 9 hF fun t79 hF=>?_;refine oA 80 (.int .i64 (z7e t79)) ?_;refine oB 81 hF fun t81 hF=>?_;refine oA 82 (.bool t81) ?_;exact lW _ (J64 _ _ hF)
         |false=>
          replace hF:=z54 hF
          refine WL.o (some 75) ?_;refine WL.o (some 76) ?_;refine WL.o (some 77) ?_;refine WL.o (some 78) ?_;refine WL.o (some 79) ?_;refine WL.o (some 80) ?_;refine WL.o (some 81) ?_;refine oA 82 (.bool false) ?_;exact lW _ (J64 _ _ hF)
        cases t65 with
        |true=>
         replace hF:=z53 hF
         refine oA 67 v29 ?_;refine oA 68 (.int .i64 t9_48) ?_;refine oP 69 57 53 .i64 hF fun t69 hF=>?_;refine oF 70 53 0 hF fun t70 hF=>?_;refine oLi 71 3 hF fun t71 hF=>?_;refine oB 72 hF fun t72 hF=>?_;refine oA 73 (.bool t72) ?_;exact lW _ (J61 _ _ hF)
        |false=>
         replace hF:=z54 hF
         refine WL.o (some 67) ?_;refine WL.o (some 68) ?_;refine WL.o (some 69) ?_;refine WL.o (some 70) ?_;refine WL.o (some 71) ?_;refine WL.o (some 72) ?_;refine oA 73 (.bool false) ?_;exact lW _ (J61 _ _ hF)
       refine W.blockK (by kernel_rfl) (fun K52 n52 s52 o52 q52 p52=>?_);refine W.loopK (by kernel_rfl) (fun I116 K116 b116 n116 e116 q116 p116=>?_)
       have L116:∀(m:Nat) (t10:Int) (h_117:AHeap),z5a call h_11 v29 t9_48 k53 m t10 h_117=some (rR,hR)→Go w0 m0 (Func.ntmps Try.f25) I116 [(0,t0),(1,t1),(2,.int .i64 t2),(6,.int .i64 t6),(7,(z1a h_11)),(8,v29),(9,.int .i64 t9_48),(10,.int .i64 t10)] [] h_117:=by
        intro m
        induction m with
        |zero=>intro t10 h_117 hF;cases hF
        |succ m ih116=>
         intro t10 h_117 hF;rw[zc2] at hF;unfold z62 at hF;refine b116 ?_;refine W.s (fun K118 n118 e118 q118 p118=>?_);refine oG fun n119=>W.r ?_;refine oA 51 (.int .i64 t10) ?_;refine oA 52 (.int .i64 t9_48) ?_;refine oB 53 hF fun t53 hF=>?_;refine oV [(0,t0),(1,t1),(2,.int .i64 t2),(6,.int .i64 t6),(7,(z1a h_11)),(8,v29),(9,.int .i64 t9_48),(10,.int .i64 t10),(53,.bool t53)] (n119 ?_)
         cases t53 with
         |true=>
          refine oT hF fun hF=>?_;refine oZ (n118 ?_);refine oG fun n121=>?_;refine W.blockK (by kernel_rfl) (fun K122 n122 s122 o122 q122 p122=>?_);refine y12 (by kernel_rfl) (hc.ok w0) (plan:=[0,1,2,3,4,5,6]) (by kernel_rfl) (by kernel_rfl) (by kernel_rfl) ?_;obtain⟨t56,e123,hF⟩:=z4 hF;refine WD.b 1 (some 56) (.agg t56) h_117 (z36 (P:=Try.prog) (h:=h_117) (t:=56) (by kernel_rfl) (by kernel_rfl) e123) ?_;refine WD.a 0 (some 57) v29 h_117 ?_;refine WD.a 0 (some 58) (.int .i64 t10) h_117 ?_;obtain⟨t59,e124,hF⟩:=z4 hF;refine WD.b 0 (some 59) t59 h_117 (z228 (P:=Try.prog) (h:=h_117) (t:=57) (e':=53) (k:=.i64) (by kernel_rfl) (by kernel_rfl) (by kernel_rfl) e124) ?_;obtain⟨t60,e125,hF⟩:=z4 hF;refine WD.b 1 (some 60) (.agg t60) h_117 (z36 (P:=Try.prog) (h:=h_117) (t:=53) (by kernel_rfl) (by kernel_rfl) e125) ?_
          replace hF:=z18 hF;obtain⟨r61,h_126,e127,hF⟩:=hF
          replace hF:=z4 hF;obtain⟨t61,c128,hF⟩:=hF
          have c128:=zb9 c128;subst c128;refine WD.call (d:=(some 61)) (by kernel_rfl) (by kernel_rfl) (by kernel_rfl) e127 (k:=2) (by kernel_rfl) (fun _=>(by kernel_rfl)) (by decide) ?_;obtain⟨h_129,e130,hF⟩:=z4 hF;refine WD.eff (h':=h_129) (by kernel_rfl) (by kernel_rfl) (Eq.trans (by kernel_rfl) (z2c (P:=Try.prog) (h:=h_126) (t:=56) (v:=(.agg t61)) (by kernel_rfl) (by kernel_rfl) e130)) (k:=2) (by kernel_rfl) (fun _=>(by kernel_rfl)) (by decide) ?_;refine WD.nil ?_;refine gW [(0,t0),(1,t1),(2,.int .i64 t2),(6,.int .i64 t6),(7,(z1a h_11)),(8,v29),(9,.int .i64 t9_48),(10,.int .i64 t10)] (n122 (n121 (W.r ?_)));refine oA 54 (.int .i64 t10) ?_;refine oI 55 .i64 hF fun t55 hF=>?_;refine oA 10 (.int .i64 t55) ?_;refine oV [(0,t0),(1,t1),(2,.int .i64 t2),(6,.int .i64 t6),(7,(z1a h_11)),(8,v29),(9,.int .i64 t9_48),(10,.int .i64 t55)] (n116 ?_);exact gW _ (ih116 _ _ hF)
         |false=>
          refine oU hF fun hF=>?_;refine W.exit (by kernel_rfl) ?_;refine e118 (e116 ?_);refine s52 (by kernel_rfl) ?_;exact gW _ (J53 _ hF)
       exact gW _ (L116 _ _ _ hF)
      cases t48 with
      |true=>
       refine oT hF fun hF=>?_;refine W.r ?_;refine oA 49 v29 ?_;refine oM 50 57 53 hF fun t50 hF=>?_;refine oA 9 (.int .i64 t50) ?_;refine oV [(0,t0),(1,t1),(2,.int .i64 t2),(6,.int .i64 t6),(7,(z1a h_11)),(8,v29),(9,.int .i64 t50)] ?_;exact gW _ (J47 _ _ hF)
      |false=>
       refine oU hF fun hF=>?_;refine oZ ?_;exact gW _ (J47 _ _ hF)
     cases t40 with
     |true=>
      refine oT hF fun hF=>?_;refine W.r ?_;refine oA 41 t1 ?_;refine oA 42 (.int .i64 t6) ?_;refine oP 43 32 3 .i64 hF fun t43 hF=>?_;refine oLi 44 3 hF fun t44 hF=>?_;refine oA 9 (.int .i64 t44) ?_;refine oV [(0,t0),(1,t1),(2,.int .i64 t2),(6,.int .i64 t6),(7,(z1a h_11)),(8,v29),(9,.int .i64 t44)] ?_;exact gW _ (J41 _ _ hF)
     |false=>
      refine oU hF fun hF=>?_;refine oZ ?_;exact gW _ (J41 _ _ hF)
    cases t33 with
    |true=>
     replace hF:=z53 hF
     refine oA 35 t1 ?_;refine oA 36 (.int .i64 t6) ?_;refine oP 37 32 3 .i64 hF fun t37 hF=>?_;refine oLi 38 3 hF fun t38 hF=>?_;refine oB 39 hF fun t39 hF=>?_;refine oA 40 (.bool t39) ?_;exact lW _ (J40 _ _ hF)
    |false=>
     replace hF:=z54 hF
     refine WL.o (some 35) ?_;refine WL.o (some 36) ?_;refine WL.o (some 37) ?_;refine WL.o (some 38) ?_;refine WL.o (some 39) ?_;refine oA 40 (.bool false) ?_;exact lW _ (J40 _ _ hF)
   |false=>
    refine oU hF fun hF=>?_;refine W.exit (by kernel_rfl) ?_;refine e12 (e10 ?_);refine s3 (by kernel_rfl) ?_;exact gW _ (J4 _ hF)
 exact gW _ (L10 _ _ _ hF)
noncomputable def z96(call:z11)(_:Nat)(t0:AV)(t1:Int)(h:AHeap):R:=obind (z34 t0) fun t9=>obind (z20 96 t9) fun t10=>obind (z9 h t10) fun v11=>obind (z17 .i64 v11) fun t11=>lett ((t11:Int) == 0) fun (t12:Bool)=>ifB t12 (some (.ret (.tup [ze ([]:zf),.int .i64 40]),h)) (lett (decide (t1<0)) fun (t15:Bool)=>lett (fun (t19:Bool) (h_13:AHeap)=>ifB t19 (some (.ret (.tup [ze ([]:zf),.int .i64 2]),h_13)) (callN (call 47 [t0,.int .i64 t1] h_13) fun r22 h_18=>obind (z132 r22) fun t22=>lett (newH h_18 56 [.bool false,.str 0 0]) fun h_21=>obind (z27 h_21 2 t22 (z1a h_18)) fun h_23=>obind (z9 h_23 (AV.ptr (AHeap.next h_18) 0)) fun v24=>obind (z2f v24) fun t24=>lett (!t24) fun (t25:Bool)=>ifB t25 (some (.ret (.tup [ze ([]:zf),.int .i64 4]),h_23)) (obind (z9 h_23 (AV.ptr (AHeap.next h_18) 1)) fun v27=>obind (z31 v27) fun t27=>some (.ret (.tup [ze t27,.int .i64 0]),h_23)))) fun j19=>ifB t15 (j19 true h) (lett (decide (t1≥32)) fun (t18:Bool)=>j19 t18 h))
set_option maxHeartbeats 4000000 in
set_option maxRecDepth 20000 in
theorem z214{call:z11}(hc:SaysAll Try.prog call){n:Nat}{t0:AV}{t1:Int}{h:AHeap}{rR:ARes}{hR:AHeap}(hF:z96 call n t0 t1 h=some (rR,hR)):Says Try.prog 41 [t0,.int .i64 t1] h rR hR:=by
 unfold z96 at hF;refine sO Try.func41 fun w0 m0=>?_;refine wW [(0,t0),(1,.int .i64 t1)] ?_;refine oG fun n1=>W.r ?_;refine oA 4 (ze ([]:zf)) ?_;refine oA 5 (.int .i64 0) ?_;refine oV [(0,t0),(1,.int .i64 t1)] (n1 ?_);refine oH fun n2 q2=>?_;refine W.blockK (by kernel_rfl) (fun K3 n3 s3 o3 q3 p3=>?_);refine oG fun n4=>W.r ?_;refine oA 8 t0 ?_;refine oC0 9 hF fun t9 hF=>?_;refine oF 10 62 1 hF fun t10 hF=>?_;refine oLi 11 3 hF fun t11 hF=>?_;refine oB 12 hF fun t12 hF=>?_;refine oA 7 (.bool t12) ?_;refine oV [(0,t0),(1,.int .i64 t1),(7,.bool t12)] (n4 ?_)
 cases t12 with
 |true=>
  refine oT hF fun hF=>?_;refine oG fun n10=>W.r ?_;refine oA 4 (ze ([]:zf)) ?_;refine oA 5 (.int .i64 40) ?_;refine oV [(4,ze ([]:zf)),(5,.int .i64 40)] (n10 (oY (q3 (q2 ?_))));exact lZ hF [.tmp 4,.tmp 5] [ze ([]:zf),.int .i64 40] (rT (rT zc))
 |false=>
  refine oU hF fun hF=>?_;refine W.s (fun K11 n11 e11 q11 p11=>?_);refine W.r ?_;refine oA 14 (.int .i64 t1) ?_;refine oB 15 hF fun t15 hF=>?_;refine oA 16 (.bool t15) ?_;obtain⟨j19,e14,hF⟩:=z7 hF
  have J15:∀(t19:Bool) (h_13:AHeap),j19 t19 h_13=some (rR,hR)→WL Try.prog w0 m0 (Func.ntmps Try.f41) (Code.ops (y6 (y4 (y4 (y6 (y6 (y4 (z3d Try.f41)))))))) 6 K11 [(0,t0),(1,.int .i64 t1),(19,.bool t19)] [] h_13:=by
   intro t19 h_13 hF;rw[e14] at hF;refine oA 13 (.bool t19) ?_;refine oV [(0,t0),(1,.int .i64 t1),(13,.bool t19)] (n11 ?_)
   cases t19 with
   |true=>
    refine oT hF fun hF=>?_;refine oG fun n16=>W.r ?_;refine oA 4 (ze ([]:zf)) ?_;refine oA 5 (.int .i64 2) ?_;refine oV [(4,ze ([]:zf)),(5,.int .i64 2)] (n16 (oY (q3 (q2 ?_))));exact lZ hF [.tmp 4,.tmp 5] [ze ([]:zf),.int .i64 2] (rT (rT zc))
   |false=>
    refine oU hF fun hF=>?_;refine oZ (n3 (n2 ?_));refine oG fun n17=>W.r ?_;refine oA 20 t0 ?_;refine oA 21 (.int .i64 t1) ?_;refine oCa hc 22 hF fun t22 h_18 hF=>?_;refine oN 6 hF fun h_21 hF=>?_;refine oW 56 (.agg t22) hF fun h_23 hF=>?_;refine oV [(6,(z1a h_18))] (n17 ?_);refine oH fun n25 q25=>?_;refine oG fun n26=>W.r ?_;refine oA 23 (AV.ptr (AHeap.next h_18) 0) ?_;refine oLb 24 4 hF fun t24 hF=>?_;refine oB 25 hF fun t25 hF=>?_;refine oV [(6,(z1a h_18)),(25,.bool t25)] (n26 ?_)
    cases t25 with
    |true=>
     refine oT hF fun hF=>?_;refine oG fun n30=>W.r ?_;refine oA 4 (ze ([]:zf)) ?_;refine oA 5 (.int .i64 4) ?_;refine oV [(4,ze ([]:zf)),(5,.int .i64 4)] (n30 (oY (q25 ?_)));exact lZ hF [.tmp 4,.tmp 5] [ze ([]:zf),.int .i64 4] (rT (rT zc))
    |false=>
     refine oU hF fun hF=>?_;refine oZ (n25 ?_);refine oG fun n31=>W.r ?_;refine oA 26 (AV.ptr (AHeap.next h_18) 1) ?_;refine oLs 27 9 hF fun t27 hF=>?_;refine oA 4 (ze t27) ?_;refine oA 5 (.int .i64 0) ?_;refine oV [(4,ze t27),(5,.int .i64 0)] (n31 (oY ?_));exact lZ hF [.tmp 4,.tmp 5] [ze t27,.int .i64 0] (rT (rT zc))
  cases t15 with
  |true=>
   replace hF:=z53 hF
   refine WL.o (some 17) ?_;refine WL.o (some 18) ?_;refine oA 19 (.bool true) ?_;exact lW _ (J15 _ _ hF)
  |false=>
   replace hF:=z54 hF
   refine oA 17 (.int .i64 t1) ?_;refine oB 18 hF fun t18 hF=>?_;refine oA 19 (.bool t18) ?_;exact lW _ (J15 _ _ hF)
noncomputable def zb3(call:z11)(_:Nat)(t0:AV)(t1:Int)(h:AHeap):R:=lett (newH h 56 [.bool false,.str 0 0]) fun h_2=>lett (decide (t1<0)) fun (t6:Bool)=>lett (fun (t10:Bool) (h_7:AHeap)=>ifB t10 (obind (z27 h_7 2 ([.bool false,.str 0 0]:List AV) (z1a h)) fun h_11=>obind (z2b h_11 2 (z1a h)) fun w4=>some (.ret (.agg w4),h_11)) (obind (z34 t0) fun t14=>obind (z20 0 t14) fun t15=>obind (z17b 32 3 t15 t1) fun t16=>obind (z2b h_7 3 t16) fun t17=>callN (call 65 [.agg t17] h_7) fun r18 h_19=>obind (z132 r18) fun t18=>obind (z27 h_19 2 t18 (z1a h)) fun h_22=>obind (z2b h_22 2 (z1a h)) fun w4_25=>some (.ret (.agg w4_25),h_22))) fun j10=>ifB t6 (j10 true h_2) (lett (decide (t1≥32)) fun (t9:Bool)=>j10 t9 h_2)
set_option maxHeartbeats 4000000 in
set_option maxRecDepth 20000 in
theorem z257{call:z11}(hc:SaysAll Try.prog call){n:Nat}{t0:AV}{t1:Int}{h:AHeap}{rR:ARes}{hR:AHeap}(hF:zb3 call n t0 t1 h=some (rR,hR)):Says Try.prog 47 [t0,.int .i64 t1] h rR hR:=by
 unfold zb3 at hF;refine sO Try.func47 fun w0 m0=>?_;refine wW [(0,t0),(1,.int .i64 t1)] ?_;refine oG fun n1=>W.r ?_;refine oN 4 hF fun h_2 hF=>?_;refine oV [(0,t0),(1,.int .i64 t1),(4,(z1a h))] (n1 ?_);refine oH fun n4 q4=>?_;refine W.s (fun K5 n5 e5 q5 p5=>?_);refine W.r ?_;refine oA 5 (.int .i64 t1) ?_;refine oB 6 hF fun t6 hF=>?_;refine oA 7 (.bool t6) ?_;obtain⟨j10,e8,hF⟩:=z7 hF
 have J9:∀(t10:Bool) (h_7:AHeap),j10 t10 h_7=some (rR,hR)→WL Try.prog w0 m0 (Func.ntmps Try.f47) (Code.ops (y6 (y6 (y4 (z3d Try.f47))))) 6 K5 [(0,t0),(1,.int .i64 t1),(4,(z1a h)),(10,.bool t10)] [] h_7:=by
  intro t10 h_7 hF;rw[e8] at hF;refine oV [(0,t0),(1,.int .i64 t1),(4,(z1a h)),(10,.bool t10)] (n5 ?_)
  cases t10 with
  |true=>
   refine oT hF fun hF=>?_;refine oG fun n10=>W.r ?_;refine oA 11 (.agg ([.bool false,.str 0 0]:List AV)) ?_;refine oW 56 (.agg ([.bool false,.str 0 0]:List AV)) hF fun h_11 hF=>?_;refine oV [(4,(z1a h))] (n10 (oY (q4 ?_)));obtain⟨w4,e13,hF⟩:=z4 hF;exact lZ hF [.cell 4 56] [.agg w4] (rY e13 zc)
  |false=>
   refine oU hF fun hF=>?_;refine oZ (n4 ?_);refine oG fun n14=>W.r ?_;refine oA 12 t0 ?_;refine oA 13 (.int .i64 t1) ?_;refine oC0 14 hF fun t14 hF=>?_;refine oF 15 62 0 hF fun t15 hF=>?_;refine oQ 16 60 59 .i64 hF fun t16 hF=>?_;refine oR 17 59 hF fun t17 hF=>?_;refine oCa hc 18 hF fun t18 h_19 hF=>?_;refine oW 56 (.agg t18) hF fun h_22 hF=>?_;refine oV [(4,(z1a h))] (n14 (oY ?_));obtain⟨w4_25,e24,hF⟩:=z4 hF;exact lZ hF [.cell 4 56] [.agg w4_25] (rY e24 zc)
 cases t6 with
 |true=>
  replace hF:=z53 hF
  refine WL.o (some 8) ?_;refine WL.o (some 9) ?_;refine oA 10 (.bool true) ?_;exact lW _ (J9 _ _ hF)
 |false=>
  replace hF:=z54 hF
  refine oA 8 (.int .i64 t1) ?_;refine oB 9 hF fun t9 hF=>?_;refine oA 10 (.bool t9) ?_;exact lW _ (J9 _ _ hF)
noncomputable def z94(_:z11)(_:Nat)(t0:AV)(t1:Int)(t2:Int)(h:AHeap):R:=obind (z34 t0) fun t9=>obind (z20 96 t9) fun t10=>obind (z9 h t10) fun v11=>obind (z17 .i64 v11) fun t11=>lett ((t11:Int) == 0) fun (t12:Bool)=>ifB t12 (some (.ret (.int .i64 40),h)) (lett (decide (t1<0)) fun (t15:Bool)=>lett (fun (t19:Bool) (h_13:AHeap)=>ifB t19 (some (.ret (.int .i64 2),h_13)) (lett ((t2:Int) != 0) fun (t22:Bool)=>ifB t22 (some (.ret (.int .i64 t2),h_13)) (obind (z34 t0) fun t25=>obind (z20 96 t25) fun t26=>obind (z9 h_13 t26) fun v27=>obind (z17 .i64 v27) fun t27=>lett (decide (t27>0)) fun (t28:Bool)=>lett (fun (h_28:AHeap)=>obind (z34 t0) fun t39=>obind (z20 97 t39) fun t40=>obind (z9 h_28 t40) fun v41=>obind (z17 .i64 v41) fun t41=>lett (IntKind.i64.wrap (t41+1)) fun (t42:Int)=>obind (z34 t0) fun t43=>obind (z20 97 t43) fun t44=>obind (z27 h_28 1 [.int .i64 t42] t44) fun h_37=>some (.ret (.int .i64 0),h_37)) fun k27=>ifB t28 (obind (z34 t0) fun t31=>obind (z20 96 t31) fun t32=>obind (z9 h_13 t32) fun v33=>obind (z17 .i64 v33) fun t33=>lett (IntKind.i64.wrap (t33 - 1)) fun (t34:Int)=>obind (z34 t0) fun t35=>obind (z20 96 t35) fun t36=>obind (z27 h_13 1 [.int .i64 t34] t36) fun h_47=>k27 h_47) (k27 h_13)))) fun j19=>ifB t15 (j19 true h) (lett (decide (t1≥32)) fun (t18:Bool)=>j19 t18 h))
set_option maxHeartbeats 4000000 in
set_option maxRecDepth 20000 in
theorem z212{call:z11}(_:SaysAll Try.prog call){n:Nat}{t0:AV}{t1:Int}{t2:Int}{h:AHeap}{rR:ARes}{hR:AHeap}(hF:z94 call n t0 t1 t2 h=some (rR,hR)):Says Try.prog 48 [t0,.int .i64 t1,.int .i64 t2] h rR hR:=by
 unfold z94 at hF;refine sO Try.func48 fun w0 m0=>?_;refine wW [(0,t0),(1,.int .i64 t1),(2,.int .i64 t2)] ?_;refine oG fun n1=>W.r ?_;refine oA 6 (.int .i64 0) ?_;refine oV [(0,t0),(1,.int .i64 t1),(2,.int .i64 t2)] (n1 ?_);refine oH fun n2 q2=>?_;refine W.blockK (by kernel_rfl) (fun K3 n3 s3 o3 q3 p3=>?_);refine oG fun n4=>W.r ?_;refine oA 8 t0 ?_;refine oC0 9 hF fun t9 hF=>?_;refine oF 10 62 1 hF fun t10 hF=>?_;refine oLi 11 3 hF fun t11 hF=>?_;refine oB 12 hF fun t12 hF=>?_;refine oA 7 (.bool t12) ?_;refine oV [(0,t0),(1,.int .i64 t1),(2,.int .i64 t2),(7,.bool t12)] (n4 ?_)
 cases t12 with
 |true=>
  refine oT hF fun hF=>?_;refine oG fun n10=>W.r ?_;refine oA 6 (.int .i64 40) ?_;refine oV [(6,.int .i64 40)] (n10 (oY (q3 (q2 ?_))));exact lZ hF [.tmp 6] [.int .i64 40] (rT zc)
 |false=>
  refine oU hF fun hF=>?_;refine W.s (fun K11 n11 e11 q11 p11=>?_);refine W.r ?_;refine oA 14 (.int .i64 t1) ?_;refine oB 15 hF fun t15 hF=>?_;refine oA 16 (.bool t15) ?_;obtain⟨j19,e14,hF⟩:=z7 hF
  have J15:∀(t19:Bool) (h_13:AHeap),j19 t19 h_13=some (rR,hR)→WL Try.prog w0 m0 (Func.ntmps Try.f48) (Code.ops (y6 (y4 (y4 (y6 (y6 (y4 (z3d Try.f48)))))))) 6 K11 [(0,t0),(2,.int .i64 t2),(19,.bool t19)] [] h_13:=by
   intro t19 h_13 hF;rw[e14] at hF;refine oA 13 (.bool t19) ?_;refine oV [(0,t0),(2,.int .i64 t2),(13,.bool t19)] (n11 ?_)
   cases t19 with
   |true=>
    refine oT hF fun hF=>?_;refine oG fun n16=>W.r ?_;refine oA 6 (.int .i64 2) ?_;refine oV [(6,.int .i64 2)] (n16 (oY (q3 (q2 ?_))));exact lZ hF [.tmp 6] [.int .i64 2] (rT zc)
   |false=>
    refine oU hF fun hF=>?_;refine oG fun n17=>W.r ?_;refine oA 21 (.int .i64 t2) ?_;refine oB 22 hF fun t22 hF=>?_;refine oA 20 (.bool t22) ?_;refine oV [(0,t0),(2,.int .i64 t2),(20,.bool t22)] (n17 ?_)
    cases t22 with
    |true=>
     refine oT hF fun hF=>?_;refine oG fun n19=>W.r ?_;refine oA 23 (.int .i64 t2) ?_;refine oA 6 (.int .i64 t2) ?_;refine oV [(6,.int .i64 t2)] (n19 (oY (q3 (q2 ?_))));exact lZ hF [.tmp 6] [.int .i64 t2] (rT zc)
    |false=>
     refine oU hF fun hF=>?_;refine oZ (n3 (n2 ?_));refine W.s (fun K20 n20 e20 q20 p20=>?_);refine oG fun n21=>W.r ?_;refine oA 24 t0 ?_;refine oC0 25 hF fun t25 hF=>?_;refine oF 26 62 1 hF fun t26 hF=>?_;refine oLi 27 3 hF fun t27 hF=>?_;refine oB 28 hF fun t28 hF=>?_;refine oV [(0,t0),(28,.bool t28)] (n21 ?_);obtain⟨k27,e27,hF⟩:=z7 hF
     have J27:∀(h_28:AHeap),k27 h_28=some (rR,hR)→Go w0 m0 (Func.ntmps Try.f48) (K20 .normal) [(0,t0)] [] h_28:=by
      intro h_28 hF;rw[e27] at hF;refine n20 ?_;refine oG fun n29=>W.r ?_;refine oA 37 t0 ?_;refine oA 38 t0 ?_;refine oC0 39 hF fun t39 hF=>?_;refine oF 40 62 2 hF fun t40 hF=>?_;refine oLi 41 3 hF fun t41 hF=>?_;refine oI 42 .i64 hF fun t42 hF=>?_;refine oC0 43 hF fun t43 hF=>?_;refine oF 44 62 2 hF fun t44 hF=>?_;refine oW 3 (.int .i64 t42) hF fun h_37 hF=>?_;refine oV [] (n29 ?_);refine oG fun n39=>W.r ?_;refine oA 6 (.int .i64 0) ?_;refine oV [(6,.int .i64 0)] (n39 (oY ?_));exact lZ hF [.tmp 6] [.int .i64 0] (rT zc)
     cases t28 with
     |true=>
      refine oT hF fun hF=>?_;refine W.r ?_;refine oA 29 t0 ?_;refine oA 30 t0 ?_;refine oC0 31 hF fun t31 hF=>?_;refine oF 32 62 1 hF fun t32 hF=>?_;refine oLi 33 3 hF fun t33 hF=>?_;refine oI 34 .i64 hF fun t34 hF=>?_;refine oC0 35 hF fun t35 hF=>?_;refine oF 36 62 1 hF fun t36 hF=>?_;refine oW 3 (.int .i64 t34) hF fun h_47 hF=>?_;refine oV [(0,t0)] ?_;exact gW _ (J27 _ hF)
     |false=>
      refine oU hF fun hF=>?_;refine oZ ?_;exact gW _ (J27 _ hF)
  cases t15 with
  |true=>
   replace hF:=z53 hF
   refine WL.o (some 17) ?_;refine WL.o (some 18) ?_;refine oA 19 (.bool true) ?_;exact lW _ (J15 _ _ hF)
  |false=>
   replace hF:=z54 hF
   refine oA 17 (.int .i64 t1) ?_;refine oB 18 hF fun t18 hF=>?_;refine oA 19 (.bool t18) ?_;exact lW _ (J15 _ _ hF)
noncomputable def zdd(call:z11)(v1:AV)(h_4:AHeap)(k16:AHeap→R)(self:Int→AHeap→R)(t4:Int)(h_24:AHeap):R:=obind (z20 2 v1) fun t8=>obind (z9 h_24 t8) fun v9=>obind (z197 v9) fun t10=>lett (decide (t4<t10)) fun (t11:Bool)=>ifB t11 (obind (z2b h_24 2 (z1a h_4)) fun t14=>obind (z20 2 v1) fun t15=>obind (z9 h_24 t15) fun v16=>obind (z18d 3 v16 t4) fun t18=>obind (z2b h_24 3 t18) fun t19=>callN (call 50 [.agg t14,.agg t19] h_24) fun r20 h_38=>obind (z132 r20) fun t20=>obind (z27 h_38 2 t20 (z1a h_4)) fun h_41=>lett (IntKind.i64.wrap (t4+1)) fun (t13:Int)=>self t13 h_41) (k16 h_24)
noncomputable def zff(call:z11)(v1:AV)(h_4:AHeap)(k16:AHeap→R):Nat→Int→AHeap→R:=z130 (fun _ _=>none) (zdd call v1 h_4 k16)
theorem z151(call:z11)(v1:AV)(h_4:AHeap)(k16:AHeap→R)(m:Nat):zff call v1 h_4 k16 (m+1)=zdd call v1 h_4 k16 (zff call v1 h_4 k16 m):=rfl
noncomputable def z113(call:z11)(n:Nat)(t0:List AV)(h:AHeap):R:=outK (zba h 59 (some (.agg t0))) fun v1 h_2=>lett (newH h_2 56 [.bool false,.str 0 0]) fun h_4=>obind (z20 0 v1) fun t5=>obind (z2b h_4 2 t5) fun t6=>lett (newH h_4 56 [.bool false,.str 0 0]) fun h_9=>obind (z27 h_9 2 t6 (z1a h_4)) fun h_11=>lett (fun (h_17:AHeap)=>obind (z2b h_17 2 (z1a h_4)) fun t21=>obind (z27 h_17 2 t21 (z1a h_2)) fun h_20=>obind (z2b h_20 2 (z1a h_2)) fun w2=>some (.ret (.agg w2),h_20)) fun k16=>zff call v1 h_4 k16 n 0 h_11
set_option maxHeartbeats 4000000 in
set_option maxRecDepth 20000 in
theorem z33b{call:z11}(hc:SaysAll Try.prog call){n:Nat}{t0:List AV}{h:AHeap}{rR:ARes}{hR:AHeap}(hF:z113 call n t0 h=some (rR,hR)):Says Try.prog 65 [.agg t0] h rR hR:=by
 unfold z113 at hF;refine sO Try.func65 fun w0 m0=>?_;refine wW [(0,.agg t0)] ?_;refine oG fun n1=>W.r ?_;refine oK 1 hF fun v1 h_2 hF=>?_;refine oN 2 hF fun h_4 hF=>?_;refine oV [(1,v1),(2,(z1a h_2))] (n1 ?_);refine oG fun n6=>W.r ?_;refine oF 5 59 0 hF fun t5 hF=>?_;refine oR 6 56 hF fun t6 hF=>?_;refine oN 3 hF fun h_9 hF=>?_;refine oW 56 (.agg t6) hF fun h_11 hF=>?_;refine oV [(1,v1),(2,(z1a h_2)),(3,(z1a h_4))] (n6 ?_);refine W.s (fun K13 n13 e13 q13 p13=>?_);refine oG fun n14=>W.r ?_;refine oA 4 (.int .i64 0) ?_;refine oV [(1,v1),(2,(z1a h_2)),(3,(z1a h_4)),(4,.int .i64 0)] (n14 ?_);obtain⟨k16,e16,hF⟩:=z7 hF
 have J16:∀(h_17:AHeap),k16 h_17=some (rR,hR)→Go w0 m0 (Func.ntmps Try.f65) (K13 .normal) [(2,(z1a h_2)),(3,(z1a h_4))] [] h_17:=by
  intro h_17 hF;rw[e16] at hF;refine n13 ?_;refine oG fun n18=>W.r ?_;refine oR 21 56 hF fun t21 hF=>?_;refine oW 56 (.agg t21) hF fun h_20 hF=>?_;refine oV [(2,(z1a h_2))] (n18 (oY ?_));obtain⟨w2,e22,hF⟩:=z4 hF;exact lZ hF [.cell 2 56] [.agg w2] (rY e22 zc)
 refine W.blockK (by kernel_rfl) (fun K15 n15 s15 o15 q15 p15=>?_);refine W.loopK (by kernel_rfl) (fun I23 K23 b23 n23 e23 q23 p23=>?_)
 have L23:∀(m:Nat) (t4:Int) (h_24:AHeap),zff call v1 h_4 k16 m t4 h_24=some (rR,hR)→Go w0 m0 (Func.ntmps Try.f65) I23 [(1,v1),(2,(z1a h_2)),(3,(z1a h_4)),(4,.int .i64 t4)] [] h_24:=by
  intro m
  induction m with
  |zero=>intro t4 h_24 hF;cases hF
  |succ m ih23=>
   intro t4 h_24 hF;rw[z151] at hF;unfold zdd at hF;refine b23 ?_;refine W.s (fun K25 n25 e25 q25 p25=>?_);refine oG fun n26=>W.r ?_;refine oA 7 (.int .i64 t4) ?_;refine oF 8 59 1 hF fun t8 hF=>?_;refine oL 9 57 hF fun v9 hF=>?_;refine oM 10 57 53 hF fun t10 hF=>?_;refine oB 11 hF fun t11 hF=>?_;refine oV [(1,v1),(2,(z1a h_2)),(3,(z1a h_4)),(4,.int .i64 t4),(11,.bool t11)] (n26 ?_)
   cases t11 with
   |true=>
    refine oT hF fun hF=>?_;refine oZ (n25 ?_);refine oG fun n31=>?_;refine W.blockK (by kernel_rfl) (fun K32 n32 s32 o32 q32 p32=>?_);refine y12 (by kernel_rfl) (hc.ok w0) (plan:=[0,1,2,3,4,5,6,7]) (by kernel_rfl) (by kernel_rfl) (by kernel_rfl) ?_;obtain⟨t14,e33,hF⟩:=z4 hF;refine WD.b 1 (some 14) (.agg t14) h_24 (z36 (P:=Try.prog) (h:=h_24) (t:=56) (by kernel_rfl) (by kernel_rfl) e33) ?_;obtain⟨t15,e34,hF⟩:=z4 hF;refine WD.b 0 (some 15) t15 h_24 (z10 (P:=Try.prog) (h:=h_24) (s:=59) (f:=1) (by kernel_rfl) e34) ?_;obtain⟨v16,e35,hF⟩:=z4 hF;refine WD.b 1 (some 16) v16 h_24 (z12 (P:=Try.prog) (h:=h_24) (t:=57) (by kernel_rfl) e35) ?_;refine WD.a 0 (some 17) (.int .i64 t4) h_24 ?_;obtain⟨t18,e36,hF⟩:=z4 hF;refine WD.b 0 (some 18) t18 h_24 (z228 (P:=Try.prog) (h:=h_24) (t:=57) (e':=53) (k:=.i64) (by kernel_rfl) (by kernel_rfl) (by kernel_rfl) e36) ?_;obtain⟨t19,e37,hF⟩:=z4 hF;refine WD.b 1 (some 19) (.agg t19) h_24 (z36 (P:=Try.prog) (h:=h_24) (t:=53) (by kernel_rfl) (by kernel_rfl) e37) ?_
    replace hF:=z18 hF;obtain⟨r20,h_38,e39,hF⟩:=hF
    replace hF:=z4 hF;obtain⟨t20,c40,hF⟩:=hF
    have c40:=zb9 c40;subst c40;refine WD.call (d:=(some 20)) (by kernel_rfl) (by kernel_rfl) (by kernel_rfl) e39 (k:=2) (by kernel_rfl) (fun _=>(by kernel_rfl)) (by decide) ?_;obtain⟨h_41,e42,hF⟩:=z4 hF;refine WD.eff (h':=h_41) (by kernel_rfl) (by kernel_rfl) (Eq.trans (by kernel_rfl) (z2c (P:=Try.prog) (h:=h_38) (t:=56) (v:=(.agg t20)) (by kernel_rfl) (by kernel_rfl) e42)) (k:=2) (by kernel_rfl) (fun _=>(by kernel_rfl)) (by decide) ?_;refine WD.nil ?_;refine gW [(1,v1),(2,(z1a h_2)),(3,(z1a h_4)),(4,.int .i64 t4)] (n32 (n31 (W.r ?_)));refine oA 12 (.int .i64 t4) ?_;refine oI 13 .i64 hF fun t13 hF=>?_;refine oA 4 (.int .i64 t13) ?_;refine oV [(1,v1),(2,(z1a h_2)),(3,(z1a h_4)),(4,.int .i64 t13)] (n23 ?_);exact gW _ (ih23 _ _ hF)
   |false=>
    refine oU hF fun hF=>?_;refine W.exit (by kernel_rfl) ?_;refine e25 (e23 ?_);refine s15 (by kernel_rfl) ?_;exact gW _ (J16 _ hF)
 exact gW _ (L23 _ _ _ hF)
noncomputable def z114(_:z11)(_:Nat)(t0:List AV)(t1:List AV)(h:AHeap):R:=outK (zba h 56 (some (.agg t0))) fun v2 h_2=>outK (zba h_2 53 (some (.agg t1))) fun v3 h_4=>lett (newH h_4 56 [.bool false,.str 0 0]) fun h_6=>obind (z20 0 v3) fun t5=>obind (z9 h_6 t5) fun v6=>obind (z17 .i64 v6) fun t6=>lett ((t6:Int) == 1) fun (t8:Bool)=>ifB t8 (obind (z20 1 v2) fun t9=>obind (z9 h_6 t9) fun v10=>obind (z31 v10) fun t10=>obind (z20 1 v3) fun t11=>obind (z9 h_6 t11) fun v12=>obind (z31 v12) fun t12=>obind (z43f t10 t12) fun t13=>obind (z27 h_6 2 ([.bool true,ze t13]:List AV) (z1a h_4)) fun h_24=>obind (z2b h_24 2 (z1a h_4)) fun w4=>some (.ret (.agg w4),h_24)) (lett ((t6:Int) == 2) fun (t16:Bool)=>ifB t16 (obind (z20 1 v2) fun t17=>obind (z9 h_6 t17) fun v18=>obind (z31 v18) fun t18=>obind (z20 2 v3) fun t19=>obind (z9 h_6 t19) fun v20=>obind (z17 .i64 v20) fun t20=>obind (z5f t18 0 t20) fun t21=>obind (z27 h_6 2 ([.bool true,ze t21]:List AV) (z1a h_4)) fun h_37=>obind (z2b h_37 2 (z1a h_4)) fun w4_40=>some (.ret (.agg w4_40),h_37)) (obind (z27 h_6 2 ([.bool false,.str 0 0]:List AV) (z1a h_4)) fun h_42=>obind (z2b h_42 2 (z1a h_4)) fun w4_45=>some (.ret (.agg w4_45),h_42)))
set_option maxHeartbeats 4000000 in
set_option maxRecDepth 20000 in
theorem z33c{call:z11}(_:SaysAll Try.prog call){n:Nat}{t0:List AV}{t1:List AV}{h:AHeap}{rR:ARes}{hR:AHeap}(hF:z114 call n t0 t1 h=some (rR,hR)):Says Try.prog 50 [.agg t0,.agg t1] h rR hR:=by
 unfold z114 at hF;refine sO Try.func50 fun w0 m0=>?_;refine wW [(0,.agg t0),(1,.agg t1)] ?_;refine oG fun n1=>W.r ?_;refine oK 2 hF fun v2 h_2 hF=>?_;refine oK 3 hF fun v3 h_4 hF=>?_;refine oN 4 hF fun h_6 hF=>?_;refine oV [(2,v2),(3,v3),(4,(z1a h_4))] (n1 ?_);refine oH fun n8 q8=>?_;refine oG fun n9=>W.r ?_;refine oF 5 53 0 hF fun t5 hF=>?_;refine oLi 6 3 hF fun t6 hF=>?_;refine oV [(2,v2),(3,v3),(4,(z1a h_4)),(6,.int .i64 t6)] (n9 ?_);refine W.blockK (by kernel_rfl) (fun K13 n13 s13 o13 q13 p13=>?_);refine oG fun n14=>W.r ?_;refine oB 8 hF fun t8 hF=>?_;refine oA 7 (.bool t8) ?_;refine oV [(2,v2),(3,v3),(4,(z1a h_4)),(6,.int .i64 t6),(7,.bool t8)] (n14 ?_)
 cases t8 with
 |true=>
  refine oT hF fun hF=>?_;refine oG fun n16=>W.r ?_;refine oF 9 56 1 hF fun t9 hF=>?_;refine oLs 10 9 hF fun t10 hF=>?_;refine oF 11 53 1 hF fun t11 hF=>?_;refine oLs 12 9 hF fun t12 hF=>?_;obtain⟨t13,e23,hF⟩:=z4 hF;refine WL.b (some 13) (ze t13) h_6 (z16b (P:=Try.prog) (h:=h_6) (t:=9) (lit:=false) e23) ?_;refine oA 14 (.agg ([.bool true,ze t13]:List AV)) ?_;refine oW 56 (.agg ([.bool true,ze t13]:List AV)) hF fun h_24 hF=>?_;refine oV [(4,(z1a h_4))] (n16 (oY (q13 (q8 ?_))));obtain⟨w4,e26,hF⟩:=z4 hF;exact lZ hF [.cell 4 56] [.agg w4] (rY e26 zc)
 |false=>
  refine oU hF fun hF=>?_;refine oG fun n27=>W.r ?_;refine oB 16 hF fun t16 hF=>?_;refine oA 15 (.bool t16) ?_;refine oV [(2,v2),(3,v3),(4,(z1a h_4)),(15,.bool t16)] (n27 ?_)
  cases t16 with
  |true=>
   refine oT hF fun hF=>?_;refine oG fun n29=>W.r ?_;refine oF 17 56 1 hF fun t17 hF=>?_;refine oLs 18 9 hF fun t18 hF=>?_;refine oF 19 53 2 hF fun t19 hF=>?_;refine oLi 20 3 hF fun t20 hF=>?_;obtain⟨t21,e36,hF⟩:=z4 hF;refine WL.b (some 21) (ze t21) h_6 (z61 (P:=Try.prog) (h:=h_6) (t:=9) (A:=none) (B:=(some (.int .i64 t20))) (by kernel_rfl) (.inr ⟨rfl,rfl⟩) (.inl ⟨_,rfl⟩) e36) ?_;refine oA 22 (.agg ([.bool true,ze t21]:List AV)) ?_;refine oW 56 (.agg ([.bool true,ze t21]:List AV)) hF fun h_37 hF=>?_;refine oV [(4,(z1a h_4))] (n29 (oY (q13 (q8 ?_))));obtain⟨w4_40,e39,hF⟩:=z4 hF;exact lZ hF [.cell 4 56] [.agg w4_40] (rY e39 zc)
  |false=>
   refine oU hF fun hF=>?_;refine oZ (n13 (n8 ?_));refine oG fun n41=>W.r ?_;refine oA 23 (.agg ([.bool false,.str 0 0]:List AV)) ?_;refine oW 56 (.agg ([.bool false,.str 0 0]:List AV)) hF fun h_42 hF=>?_;refine oV [(4,(z1a h_4))] (n41 (oY ?_));obtain⟨w4_45,e44,hF⟩:=z4 hF;exact lZ hF [.cell 4 56] [.agg w4_45] (rY e44 zc)
noncomputable def z11f(call:z11)(t0:zf)(self:AV→Int→AHeap→R)(t4:AV)(t5:Int)(h_6:AHeap):R:=obind (z5f t0 t5 (z7e t0)) fun t12=>callN (call 64 [ze t12] h_6) fun r13 h_10=>obind (z160 0 r13) fun v14=>obind (z31 v14) fun t14=>obind (z160 1 r13) fun v15=>obind (z17 .i64 v15) fun t15=>obind (z160 2 r13) fun v16=>obind (z17 .i64 v16) fun t16=>lett ((t16:Int) != 0) fun (t18:Bool)=>ifB t18 (some (.ret (.tup [t4,.int .i64 t5]),h_10)) (outK (z178 Try.prog h_10 103 1 [(0,ze t14)]) fun v23 h_23=>outK (z41 Try.prog h_23 103 103 t4 v23) fun v24 h_25=>lett (IntKind.i64.wrap (t5+t15)) fun (t27:Int)=>self v24 t27 h_25)
noncomputable def z100(call:z11)(t0:zf):Nat→AV→Int→AHeap→R:=z130 (fun _ _ _=>none) (z11f call t0)
theorem z1a4(call:z11)(t0:zf)(m:Nat):z100 call t0 (m+1)=z11f call t0 (z100 call t0 m):=rfl
noncomputable def z143(call:z11)(n:Nat)(t0:zf)(h:AHeap):R:=z100 call t0 n AV.nsl 0 h
set_option maxHeartbeats 4000000 in
set_option maxRecDepth 20000 in
theorem z33e{call:z11}(hc:SaysAll Try.prog call){n:Nat}{t0:zf}{h:AHeap}{rR:ARes}{hR:AHeap}(hF:z143 call n t0 h=some (rR,hR)):Says Try.prog 42 [ze t0] h rR hR:=by
 unfold z143 at hF;refine sO Try.func42 fun w0 m0=>?_;refine wW [(0,ze t0)] ?_;refine oG fun n1=>W.r ?_;refine oA 2 AV.nsl ?_;refine oA 3 (.int .i64 0) ?_;refine oV [(0,ze t0)] (n1 ?_);refine oG fun n2=>W.r ?_;refine oA 4 AV.nsl ?_;refine oV [(0,ze t0),(4,AV.nsl)] (n2 ?_);refine oG fun n3=>W.r ?_;refine oA 5 (.int .i64 0) ?_;refine oV [(0,ze t0),(4,AV.nsl),(5,.int .i64 0)] (n3 ?_);refine W.blockK (by kernel_rfl) (fun K4 n4 s4 o4 q4 p4=>?_);refine W.loopK (by kernel_rfl) (fun I5 K5 b5 n5 e5 q5 p5=>?_)
 have L5:∀(m:Nat) (t4:AV) (t5:Int) (h_6:AHeap),z100 call t0 m t4 t5 h_6=some (rR,hR)→Go w0 m0 (Func.ntmps Try.f42) I5 [(0,ze t0),(4,t4),(5,.int .i64 t5)] [] h_6:=by
  intro m
  induction m with
  |zero=>intro t4 t5 h_6 hF;cases hF
  |succ m ih5=>
   intro t4 t5 h_6 hF;rw[z1a4] at hF;unfold z11f at hF;refine b5 ?_;refine W.blockK (by kernel_rfl) (fun K7 n7 s7 o7 q7 p7=>?_);refine oG fun n8=>W.r ?_;refine oA 10 (ze t0) ?_;refine oA 11 (.int .i64 t5) ?_;obtain⟨t12,e9,hF⟩:=z4 hF;refine WL.b (some 12) (ze t12) h_6 (z61 (P:=Try.prog) (h:=h_6) (t:=9) (A:=(some (.int .i64 t5))) (B:=none) (by kernel_rfl) (.inl ⟨_,rfl⟩) (.inr ⟨rfl,rfl⟩) e9) ?_;refine oC hc (some 13) hF fun r13 h_10 hF=>?_;refine oA 9 r13 ?_;refine oEs 14 hF fun t14 hF=>?_;refine oEi 15 hF fun t15 hF=>?_;refine oEi 16 hF fun t16 hF=>?_;refine oA 6 (ze t14) ?_;refine oA 7 (.int .i64 t15) ?_;refine oA 8 (.int .i64 t16) ?_;refine oV [(0,ze t0),(4,t4),(5,.int .i64 t5),(6,ze t14),(7,.int .i64 t15),(8,.int .i64 t16)] (n8 ?_);refine oH fun n18 q18=>?_;refine oG fun n19=>W.r ?_;refine oA 17 (.int .i64 t16) ?_;refine oB 18 hF fun t18 hF=>?_;refine oV [(0,ze t0),(4,t4),(5,.int .i64 t5),(6,ze t14),(7,.int .i64 t15),(18,.bool t18)] (n19 ?_)
   cases t18 with
   |true=>
    refine oT hF fun hF=>?_;refine oG fun n21=>W.r ?_;refine oA 19 t4 ?_;refine oA 20 (.int .i64 t5) ?_;refine oA 2 t4 ?_;refine oA 3 (.int .i64 t5) ?_;refine oV [(2,t4),(3,.int .i64 t5)] (n21 (oY (q18 (q7 (q5 (q4 ?_))))));exact lZ hF [.tmp 2,.tmp 3] [t4,.int .i64 t5] (rT (rT zc))
   |false=>
    refine oU hF fun hF=>?_;refine oZ (n18 ?_);refine oG fun n22=>W.r ?_;refine oA 21 t4 ?_;refine oA 22 (ze t14) ?_;refine oK 23 hF fun v23 h_23 hF=>?_;refine oK 24 hF fun v24 h_25 hF=>?_;refine oA 4 v24 ?_;refine oV [(0,ze t0),(4,v24),(5,.int .i64 t5),(7,.int .i64 t15)] (n22 (W.r ?_));refine oA 25 (.int .i64 t5) ?_;refine oA 26 (.int .i64 t15) ?_;refine oI 27 .i64 hF fun t27 hF=>?_;refine oA 5 (.int .i64 t27) ?_;refine oV [(0,ze t0),(4,v24),(5,.int .i64 t27)] (n7 (n5 ?_));exact gW _ (ih5 _ _ _ hF)
 exact gW _ (L5 _ _ _ _ hF)
noncomputable def z142(call:z11)(_:Nat)(t0:zf)(h:AHeap):R:=lett (decide ((z7e t0)<8)) fun (t9:Bool)=>ifB t9 (some (.ret (.tup [ze ([]:zf),.int .i64 0,.int .i64 30]),h)) (obind (z352 t0 0) fun t11=>lett (IntKind.i64.wrap t11) fun (t12:Int)=>lett (IntKind.i64.wrap (t12*16777216)) fun (t13:Int)=>obind (z352 t0 1) fun t15=>lett (IntKind.i64.wrap t15) fun (t16:Int)=>lett (IntKind.i64.wrap (t16*65536)) fun (t17:Int)=>lett (IntKind.i64.wrap (t13+t17)) fun (t18:Int)=>obind (z352 t0 2) fun t20=>lett (IntKind.i64.wrap t20) fun (t21:Int)=>lett (IntKind.i64.wrap (t21*256)) fun (t22:Int)=>lett (IntKind.i64.wrap (t18+t22)) fun (t23:Int)=>obind (z352 t0 3) fun t25=>lett (IntKind.i64.wrap t25) fun (t26:Int)=>lett (IntKind.i64.wrap (t23+t26)) fun (t27:Int)=>lett (fun (t39:Bool) (h_24:AHeap)=>ifB t39 (some (.ret (.tup [ze ([]:zf),.int .i64 0,.int .i64 7]),h_24)) (lett (IntKind.i64.wrap (t27+12)) fun (t43:Int)=>lett (decide ((z7e t0)<t43)) fun (t44:Bool)=>ifB t44 (some (.ret (.tup [ze ([]:zf),.int .i64 0,.int .i64 30]),h_24)) (lett (IntKind.i64.wrap (8+t27)) fun (t47:Int)=>obind (z5f t0 8 t47) fun t48=>lett (IntKind.i64.wrap (t27+12)) fun (t53:Int)=>obind (z5f t0 0 t53) fun t54=>callN (call 66 [ze t48] h_24) fun r50 h_38=>obind (z31 r50) fun t50=>lett (!eqS t50 t54) fun (t55:Bool)=>ifB t55 (some (.ret (.tup [ze ([]:zf),.int .i64 0,.int .i64 7]),h_38)) (lett (IntKind.i64.wrap (t27+12)) fun (t58:Int)=>some (.ret (.tup [ze t48,.int .i64 t58,.int .i64 0]),h_38))))) fun k23=>lett (decide (t27>4096)) fun (t29:Bool)=>ifB t29 (k23 true h) (obind (z5f t0 0 4) fun t32=>obind (z5f t0 4 8) fun t37=>callN (call 78 [ze t32] h) fun r33 h_48=>obind (z17 .u32 r33) fun t33=>lett (IntKind.u64.wrap t33) fun (t34:Int)=>callN (call 67 [.int .u64 t34,.int .i64 4] h_48) fun r35 h_52=>obind (z31 r35) fun t35=>lett (!eqS t35 t37) fun (t38:Bool)=>k23 t38 h_52))
set_option maxHeartbeats 4000000 in
set_option maxRecDepth 20000 in
theorem z33d{call:z11}(hc:SaysAll Try.prog call){n:Nat}{t0:zf}{h:AHeap}{rR:ARes}{hR:AHeap}(hF:z142 call n t0 h=some (rR,hR)):Says Try.prog 64 [ze t0] h rR hR:=by
 unfold z142 at hF;refine sO Try.func64 fun w0 m0=>?_;refine wW [(0,ze t0)] ?_;refine oG fun n1=>W.r ?_;refine oA 2 (ze ([]:zf)) ?_;refine oA 3 (.int .i64 0) ?_;refine oA 4 (.int .i64 0) ?_;refine oV [(0,ze t0)] (n1 ?_);refine oH fun n2 q2=>?_;refine oG fun n3=>W.r ?_;refine oA 7 (ze t0) ?_;refine oA 8 (.int .i64 (z7e t0)) ?_;refine oB 9 hF fun t9 hF=>?_;refine oV [(0,ze t0),(9,.bool t9)] (n3 ?_)
 cases t9 with
 |true=>
  refine oT hF fun hF=>?_;refine oG fun n5=>W.r ?_;refine oA 2 (ze ([]:zf)) ?_;refine oA 3 (.int .i64 0) ?_;refine oA 4 (.int .i64 30) ?_;refine oV [(2,ze ([]:zf)),(3,.int .i64 0),(4,.int .i64 30)] (n5 (oY (q2 ?_)));exact lZ hF [.tmp 2,.tmp 3,.tmp 4] [ze ([]:zf),.int .i64 0,.int .i64 30] (rT (rT (rT zc)))
 |false=>
  refine oU hF fun hF=>?_;refine oZ (n2 ?_);refine oG fun n6=>?_;refine y12 (by kernel_rfl) (hc.ok w0) (plan:=[0,1,2,3,4,5,6,7,8,9,10,11,12,13,14,15,16,17,18]) (by kernel_rfl) (by kernel_rfl) (by kernel_rfl) ?_;refine WD.a 0 (some 10) (ze t0) h ?_;obtain⟨t11,e7,hF⟩:=z4 hF;refine WD.b 0 (some 11) (.int .u8 t11) h (z158 (P:=Try.prog) (h:=h) (t:=9) (k:=.i64) (by kernel_rfl) e7) ?_;obtain⟨t12,e8,hF⟩:=z7 hF;refine WD.val (d:=(some 12)) (v:=.int .i64 t12) (h':=h) (by kernel_rfl) (by kernel_rfl) (z2a (AV.int .i64) e8 (by kernel_rfl)) (k:=0) (by kernel_rfl) (fun e=>absurd e (by decide)) (by decide) ?_;obtain⟨t13,e9,hF⟩:=z7 hF;refine WD.val (d:=(some 13)) (v:=.int .i64 t13) (h':=h) (by kernel_rfl) (by kernel_rfl) (z2a (AV.int .i64) e9 (by kernel_rfl)) (k:=0) (by kernel_rfl) (fun e=>absurd e (by decide)) (by decide) ?_;refine WD.a 0 (some 14) (ze t0) h ?_;obtain⟨t15,e10,hF⟩:=z4 hF;refine WD.b 0 (some 15) (.int .u8 t15) h (z158 (P:=Try.prog) (h:=h) (t:=9) (k:=.i64) (by kernel_rfl) e10) ?_;obtain⟨t16,e11,hF⟩:=z7 hF;refine WD.val (d:=(some 16)) (v:=.int .i64 t16) (h':=h) (by kernel_rfl) (by kernel_rfl) (z2a (AV.int .i64) e11 (by kernel_rfl)) (k:=0) (by kernel_rfl) (fun e=>absurd e (by decide)) (by decide) ?_;obtain⟨t17,e12,hF⟩:=z7 hF;refine WD.val (d:=(some 17)) (v:=.int .i64 t17) (h':=h) (by kernel_rfl) (by kernel_rfl) (z2a (AV.int .i64) e12 (by kernel_rfl)) (k:=0) (by kernel_rfl) (fun e=>absurd e (by decide)) (by decide) ?_;obtain⟨t18,e13,hF⟩:=z7 hF;refine WD.val (d:=(some 18)) (v:=.int .i64 t18) (h':=h) (by kernel_rfl) (by kernel_rfl) (z2a (AV.int .i64) e13 (by kernel_rfl)) (k:=0) (by kernel_rfl) (fun e=>absurd e (by decide)) (by decide) ?_;refine WD.a 0 (some 19) (ze t0) h ?_;obtain⟨t20,e14,hF⟩:=z4 hF;refine WD.b 0 (some 20) (.int .u8 t20) h (z158 (P:=Try.prog) (h:=h) (t:=9) (k:=.i64) (by kernel_rfl) e14) ?_;obtain⟨t21,e15,hF⟩:=z7 hF;refine WD.val (d:=(some 21)) (v:=.int .i64 t21) (h':=h) (by kernel_rfl) (by kernel_rfl) (z2a (AV.int .i64) e15 (by kernel_rfl)) (k:=0) (by kernel_rfl) (fun e=>absurd e (by decide)) (by decide) ?_;obtain⟨t22,e16,hF⟩:=z7 hF;refine WD.val (d:=(some 22)) (v:=.int .i64 t22) (h':=h) (by kernel_rfl) (by kernel_rfl) (z2a (AV.int .i64) e16 (by kernel_rfl)) (k:=0) (by kernel_rfl) (fun e=>absurd e (by decide)) (by decide) ?_;obtain⟨t23,e17,hF⟩:=z7 hF;refine WD.val (d:=(some 23)) (v:=.int .i64 t23) (h':=h) (by kernel_rfl) (by kernel_rfl) (z2a (AV.int .i64) e17 (by kernel_rfl)) (k:=0) (by kernel_rfl) (fun e=>absurd e (by decide)) (by decide) ?_;refine WD.a 0 (some 24) (ze t0) h ?_;obtain⟨t25,e18,hF⟩:=z4 hF;refine WD.b 0 (some 25) (.int .u8 t25) h (z158 (P:=Try.prog) (h:=h) (t:=9) (k:=.i64) (by kernel_rfl) e18) ?_;obtain⟨t26,e19,hF⟩:=z7 hF;refine WD.val (d:=(some 26)) (v:=.int .i64 t26) (h':=h) (by kernel_rfl) (by kernel_rfl) (z2a (AV.int .i64) e19 (by kernel_rfl)) (k:=0) (by kernel_rfl) (fun e=>absurd e (by decide)) (by decide) ?_;obtain⟨t27,e20,hF⟩:=z7 hF;refine WD.val (d:=(some 27)) (v:=.int .i64 t27) (h':=h) (by kernel_rfl) (by kernel_rfl) (z2a (AV.int .i64) e20 (by kernel_rfl)) (k:=0) (by kernel_rfl) (fun e=>absurd e (by decide)) (by decide) ?_;refine WD.a 0 (some 5) (.int .i64 t27) h ?_;refine WD.nil ?_;refine gW [(0,ze t0),(5,.int .i64 t27)] (n6 ?_);refine oH fun n21 q21=>?_;refine W.s (fun K22 n22 e22 q22 p22=>?_);obtain⟨k23,e23,hF⟩:=z7 hF
  have J23:∀(t39:Bool) (h_24:AHeap),k23 t39 h_24=some (rR,hR)→Go w0 m0 (Func.ntmps Try.f64) (K22 .normal) [(0,ze t0),(5,.int .i64 t27),(39,.bool t39)] [] h_24:=by
   intro t39 h_24 hF;rw[e23] at hF;refine n22 ?_
   cases t39 with
   |true=>
    refine oT hF fun hF=>?_;refine oG fun n25=>W.r ?_;refine oA 2 (ze ([]:zf)) ?_;refine oA 3 (.int .i64 0) ?_;refine oA 4 (.int .i64 7) ?_;refine oV [(2,ze ([]:zf)),(3,.int .i64 0),(4,.int .i64 7)] (n25 (oY (q21 ?_)));exact lZ hF [.tmp 2,.tmp 3,.tmp 4] [ze ([]:zf),.int .i64 0,.int .i64 7] (rT (rT (rT zc)))
   |false=>
    refine oU hF fun hF=>?_;refine oZ (n21 ?_);refine oH fun n26 q26=>?_;refine oG fun n27=>W.r ?_;refine oA 40 (ze t0) ?_;refine oA 41 (.int .i64 (z7e t0)) ?_;refine oA 42 (.int .i64 t27) ?_;refine oI 43 .i64 hF fun t43 hF=>?_;refine oB 44 hF fun t44 hF=>?_;refine oV [(0,ze t0),(5,.int .i64 t27),(44,.bool t44)] (n27 ?_)
    cases t44 with
    |true=>
     refine oT hF fun hF=>?_;refine oG fun n30=>W.r ?_;refine oA 2 (ze ([]:zf)) ?_;refine oA 3 (.int .i64 0) ?_;refine oA 4 (.int .i64 30) ?_;refine oV [(2,ze ([]:zf)),(3,.int .i64 0),(4,.int .i64 30)] (n30 (oY (q26 ?_)));exact lZ hF [.tmp 2,.tmp 3,.tmp 4] [ze ([]:zf),.int .i64 0,.int .i64 30] (rT (rT (rT zc)))
    |false=>
     refine oU hF fun hF=>?_;refine oZ (n26 ?_);refine oG fun n31=>W.r ?_;refine oA 45 (ze t0) ?_;refine oA 46 (.int .i64 t27) ?_;refine oI 47 .i64 hF fun t47 hF=>?_;obtain⟨t48,e33,hF⟩:=z4 hF;refine WL.b (some 48) (ze t48) h_24 (z61 (P:=Try.prog) (h:=h_24) (t:=9) (A:=(some (.int .i64 8))) (B:=(some (.int .i64 t47))) (by kernel_rfl) (.inl ⟨_,rfl⟩) (.inl ⟨_,rfl⟩) e33) ?_;refine oA 6 (ze t48) ?_;refine oV [(0,ze t0),(5,.int .i64 t27),(6,ze t48)] (n31 ?_);refine oH fun n34 q34=>?_;refine oG fun n35=>?_;refine y12 (by kernel_rfl) (hc.ok w0) (plan:=[0,2,3,4,5,1,6]) (by kernel_rfl) (by kernel_rfl) (by kernel_rfl) ?_;refine WD.a 0 (some 49) (ze t48) h_24 ?_;refine WD.a 0 (some 51) (ze t0) h_24 ?_;refine WD.a 0 (some 52) (.int .i64 t27) h_24 ?_;obtain⟨t53,e36,hF⟩:=z7 hF;refine WD.val (d:=(some 53)) (v:=.int .i64 t53) (h':=h_24) (by kernel_rfl) (by kernel_rfl) (z2a (AV.int .i64) e36 (by kernel_rfl)) (k:=0) (by kernel_rfl) (fun e=>absurd e (by decide)) (by decide) ?_;obtain⟨t54,e37,hF⟩:=z4 hF;refine WD.b 0 (some 54) (ze t54) h_24 (z61 (P:=Try.prog) (h:=h_24) (t:=9) (A:=none) (B:=(some (.int .i64 t53))) (by kernel_rfl) (.inr ⟨rfl,rfl⟩) (.inl ⟨_,rfl⟩) e37) ?_
     replace hF:=z18 hF;obtain⟨r50,h_38,e39,hF⟩:=hF
     replace hF:=z4 hF;obtain⟨t50,c40,hF⟩:=hF
     have c40:=z22 c40;subst c40;refine WD.call (d:=(some 50)) (by kernel_rfl) (by kernel_rfl) (by kernel_rfl) e39 (k:=2) (by kernel_rfl) (fun _=>(by kernel_rfl)) (by decide) ?_;obtain⟨t55,e41,hF⟩:=z7 hF;refine WD.val (d:=(some 55)) (v:=.bool t55) (h':=h_38) (by kernel_rfl) (by kernel_rfl) (z2a AV.bool e41 (by kernel_rfl)) (k:=0) (by kernel_rfl) (fun e=>absurd e (by decide)) (by decide) ?_;refine WD.nil ?_;refine gW [(5,.int .i64 t27),(6,ze t48),(55,.bool t55)] (n35 ?_)
     cases t55 with
     |true=>
      refine oT hF fun hF=>?_;refine oG fun n42=>W.r ?_;refine oA 2 (ze ([]:zf)) ?_;refine oA 3 (.int .i64 0) ?_;refine oA 4 (.int .i64 7) ?_;refine oV [(2,ze ([]:zf)),(3,.int .i64 0),(4,.int .i64 7)] (n42 (oY (q34 ?_)));exact lZ hF [.tmp 2,.tmp 3,.tmp 4] [ze ([]:zf),.int .i64 0,.int .i64 7] (rT (rT (rT zc)))
     |false=>
      refine oU hF fun hF=>?_;refine oZ (n34 ?_);refine oG fun n43=>W.r ?_;refine oA 56 (ze t48) ?_;refine oA 57 (.int .i64 t27) ?_;refine oI 58 .i64 hF fun t58 hF=>?_;refine oA 2 (ze t48) ?_;refine oA 3 (.int .i64 t58) ?_;refine oA 4 (.int .i64 0) ?_;refine oV [(2,ze t48),(3,.int .i64 t58),(4,.int .i64 0)] (n43 (oY ?_));exact lZ hF [.tmp 2,.tmp 3,.tmp 4] [ze t48,.int .i64 t58,.int .i64 0] (rT (rT (rT zc)))
  refine y12 (by kernel_rfl) (hc.ok w0) (plan:=[0,1,2,3,4,8,9,5,6,7,10,11]) (by kernel_rfl) (by kernel_rfl) (by kernel_rfl) ?_;refine WD.a 0 (some 28) (.int .i64 t27) h ?_;obtain⟨t29,e45,hF⟩:=z7 hF;refine WD.val (d:=(some 29)) (v:=.bool t29) (h':=h) (by kernel_rfl) (by kernel_rfl) (z2a AV.bool e45 (by kernel_rfl)) (k:=0) (by kernel_rfl) (fun e=>absurd e (by decide)) (by decide) ?_;refine WD.a 0 (some 30) (.bool t29) h ?_
  cases t29 with
  |true=>
   replace hF:=z53 hF
   refine oD 0 (some 31) ?_;refine oD 0 (some 32) ?_;refine oD 0 (some 36) ?_;refine oD 0 (some 37) ?_;refine WD.not (d:=(some 33)) (by kernel_rfl) (by kernel_rfl) (k:=2) (by kernel_rfl) (fun _=>(by kernel_rfl)) (by decide) ?_;refine oD 0 (some 34) ?_;refine WD.not (d:=(some 35)) (by kernel_rfl) (by kernel_rfl) (k:=2) (by kernel_rfl) (fun _=>(by kernel_rfl)) (by decide) ?_;refine oD 0 (some 38) ?_;refine WD.a 0 (some 39) (.bool true) h ?_;refine WD.nil ?_;exact gW _ (J23 _ _ hF)
  |false=>
   replace hF:=z54 hF
   refine WD.a 0 (some 31) (ze t0) h ?_;obtain⟨t32,e46,hF⟩:=z4 hF;refine WD.b 0 (some 32) (ze t32) h (z61 (P:=Try.prog) (h:=h) (t:=9) (A:=none) (B:=(some (.int .i64 4))) (by kernel_rfl) (.inr ⟨rfl,rfl⟩) (.inl ⟨_,rfl⟩) e46) ?_;refine WD.a 0 (some 36) (ze t0) h ?_;obtain⟨t37,e47,hF⟩:=z4 hF;refine WD.b 0 (some 37) (ze t37) h (z61 (P:=Try.prog) (h:=h) (t:=9) (A:=(some (.int .i64 4))) (B:=(some (.int .i64 8))) (by kernel_rfl) (.inl ⟨_,rfl⟩) (.inl ⟨_,rfl⟩) e47) ?_
   replace hF:=z18 hF;obtain⟨r33,h_48,e49,hF⟩:=hF
   replace hF:=z4 hF;obtain⟨t33,c50,hF⟩:=hF
   have c50:=z15 c50;subst c50;refine WD.call (d:=(some 33)) (by kernel_rfl) (by kernel_rfl) (by kernel_rfl) e49 (k:=2) (by kernel_rfl) (fun _=>(by kernel_rfl)) (by decide) ?_;obtain⟨t34,e51,hF⟩:=z7 hF;refine WD.val (d:=(some 34)) (v:=.int .u64 t34) (h':=h_48) (by kernel_rfl) (by kernel_rfl) (z2a (AV.int .u64) e51 (by kernel_rfl)) (k:=0) (by kernel_rfl) (fun e=>absurd e (by decide)) (by decide) ?_
   replace hF:=z18 hF;obtain⟨r35,h_52,e53,hF⟩:=hF
   replace hF:=z4 hF;obtain⟨t35,c54,hF⟩:=hF
   have c54:=z22 c54;subst c54;refine WD.call (d:=(some 35)) (by kernel_rfl) (by kernel_rfl) (by kernel_rfl) e53 (k:=2) (by kernel_rfl) (fun _=>(by kernel_rfl)) (by decide) ?_;obtain⟨t38,e55,hF⟩:=z7 hF;refine WD.val (d:=(some 38)) (v:=.bool t38) (h':=h_52) (by kernel_rfl) (by kernel_rfl) (z2a AV.bool e55 (by kernel_rfl)) (k:=0) (by kernel_rfl) (fun e=>absurd e (by decide)) (by decide) ?_;refine WD.a 0 (some 39) (.bool t38) h_52 ?_;refine WD.nil ?_;exact gW _ (J23 _ _ hF)
noncomputable def z172(call:z11)(_:Nat)(t0:zf)(h:AHeap):R:=lett (IntKind.u64.wrap (z7e t0)) fun (t6:Int)=>callN (call 67 [.int .u64 t6,.int .i64 4] h) fun r7 h_4=>obind (z31 r7) fun t7=>callN (call 78 [ze t7] h_4) fun r10 h_8=>obind (z17 .u32 r10) fun t10=>lett (IntKind.u64.wrap t10) fun (t11:Int)=>callN (call 67 [.int .u64 t11,.int .i64 4] h_8) fun r12 h_12=>obind (z31 r12) fun t12=>obind (z43f t7 t12) fun t13=>obind (z43f t13 t0) fun t15=>callN (call 78 [ze t0] h_12) fun r17 h_17=>obind (z17 .u32 r17) fun t17=>lett (IntKind.u64.wrap t17) fun (t18:Int)=>callN (call 67 [.int .u64 t18,.int .i64 4] h_17) fun r19 h_21=>obind (z31 r19) fun t19=>obind (z43f t15 t19) fun t20=>some (.ret (ze t20),h_21)
set_option maxHeartbeats 4000000 in
set_option maxRecDepth 20000 in
theorem z396{call:z11}(hc:SaysAll Try.prog call){n:Nat}{t0:zf}{h:AHeap}{rR:ARes}{hR:AHeap}(hF:z172 call n t0 h=some (rR,hR)):Says Try.prog 66 [ze t0] h rR hR:=by
 unfold z172 at hF;refine sO Try.func66 fun w0 m0=>?_;refine wW [(0,ze t0)] ?_;refine oG fun n1=>W.r ?_;refine oA 2 (ze ([]:zf)) ?_;refine oV [(0,ze t0)] (n1 ?_);refine oG fun n2=>W.r ?_;refine oA 4 (ze t0) ?_;refine oA 5 (.int .i64 (z7e t0)) ?_;refine oI 6 .u64 hF fun t6 hF=>?_;refine oCs hc 7 hF fun t7 h_4 hF=>?_;refine oA 3 (ze t7) ?_;refine oV [(0,ze t0),(3,ze t7)] (n2 ?_);refine oG fun n7=>W.r ?_;refine oA 8 (ze t7) ?_;refine oA 9 (ze t7) ?_;refine oCi hc 10 hF fun t10 h_8 hF=>?_;refine oI 11 .u64 hF fun t11 hF=>?_;refine oCs hc 12 hF fun t12 h_12 hF=>?_;obtain⟨t13,e15,hF⟩:=z4 hF;refine WL.b (some 13) (ze t13) h_12 (z16b (P:=Try.prog) (h:=h_12) (t:=9) (lit:=false) e15) ?_;refine oA 14 (ze t0) ?_;obtain⟨t15,e16,hF⟩:=z4 hF;refine WL.b (some 15) (ze t15) h_12 (z16b (P:=Try.prog) (h:=h_12) (t:=9) (lit:=false) e16) ?_;refine oA 16 (ze t0) ?_;refine oCi hc 17 hF fun t17 h_17 hF=>?_;refine oI 18 .u64 hF fun t18 hF=>?_;refine oCs hc 19 hF fun t19 h_21 hF=>?_;obtain⟨t20,e24,hF⟩:=z4 hF;refine WL.b (some 20) (ze t20) h_21 (z16b (P:=Try.prog) (h:=h_21) (t:=9) (lit:=false) e24) ?_;refine oA 2 (ze t20) ?_;refine oV [(2,ze t20)] (n7 (oY ?_));exact lZ hF [.tmp 2] [ze t20] (rT zc)
noncomputable def za9(v8:AV)(k9:AHeap→R)(self:Int→Int→AHeap→R)(t0_16:Int)(t6:Int)(h_17:AHeap):R:=lett (decide (t6≥0)) fun (t12:Bool)=>ifB t12 (obind (z498 .u64 t0_16 256) fun t18=>lett (IntKind.u8.wrap t18) fun (t19:Int)=>obind (z18d 1 v8 t6) fun t20=>obind (z27 h_17 1 [.int .u8 t19] t20) fun h_27=>obind (z476 .u64 t0_16 256) fun t22=>lett (IntKind.i64.wrap (t6 - 1)) fun (t14:Int)=>self t22 t14 h_27) (k9 h_17)
noncomputable def z97(v8:AV)(k9:AHeap→R):Nat→Int→Int→AHeap→R:=z130 (fun _ _ _=>none) (za9 v8 k9)
theorem z115(v8:AV)(k9:AHeap→R)(m:Nat):z97 v8 k9 (m+1)=za9 v8 k9 (z97 v8 k9 m):=rfl
noncomputable def zf1(_:z11)(n:Nat)(t0:Int)(t1:Int)(h:AHeap):R:=outK (z116 Try.prog h 74 (some (.int .i64 t1)) (some (.int .i64 t1))) fun v8 h_3=>lett (IntKind.i64.wrap (t1 - 1)) fun (t10:Int)=>lett (fun (h_10:AHeap)=>outK (zf3 Try.prog h_10 74 9 (some v8)) fun v24 h_12=>obind (z31 v24) fun t24=>some (.ret (ze t24),h_12)) fun k9=>z97 v8 k9 n t0 t10 h_3
set_option maxHeartbeats 4000000 in
set_option maxRecDepth 20000 in
theorem z2b4{call:z11}(_:SaysAll Try.prog call){n:Nat}{t0:Int}{t1:Int}{h:AHeap}{rR:ARes}{hR:AHeap}(hF:zf1 call n t0 t1 h=some (rR,hR)):Says Try.prog 67 [.int .u64 t0,.int .i64 t1] h rR hR:=by
 unfold zf1 at hF;refine sO Try.func67 fun w0 m0=>?_;refine wW [(0,.int .u64 t0),(1,.int .i64 t1)] ?_;refine oG fun n1=>W.r ?_;refine oA 4 (ze ([]:zf)) ?_;refine oV [(0,.int .u64 t0),(1,.int .i64 t1)] (n1 ?_);refine oG fun n2=>W.r ?_;refine oA 7 (.int .i64 t1) ?_;refine oK 8 hF fun v8 h_3 hF=>?_;refine oA 5 v8 ?_;refine oV [(0,.int .u64 t0),(1,.int .i64 t1),(5,v8)] (n2 ?_);refine W.s (fun K5 n5 e5 q5 p5=>?_);refine oG fun n6=>W.r ?_;refine oA 9 (.int .i64 t1) ?_;refine oI 10 .i64 hF fun t10 hF=>?_;refine oA 6 (.int .i64 t10) ?_;refine oV [(0,.int .u64 t0),(5,v8),(6,.int .i64 t10)] (n6 ?_);obtain⟨k9,e9,hF⟩:=z7 hF
 have J9:∀(h_10:AHeap),k9 h_10=some (rR,hR)→Go w0 m0 (Func.ntmps Try.f67) (K5 .normal) [(5,v8)] [] h_10:=by
  intro h_10 hF;rw[e9] at hF;refine n5 ?_;refine oG fun n11=>W.r ?_;refine oA 23 v8 ?_
  replace hF:=z26 hF;obtain⟨v24,h_12,e13,hF⟩:=hF
  replace hF:=z4 hF;obtain⟨t24,c14,hF⟩:=hF
  have c14:=z22 c14;subst c14;refine WL.b (some 24) (ze t24) h_12 e13 ?_;refine oA 4 (ze t24) ?_;refine oV [(4,ze t24)] (n11 (oY ?_));exact lZ hF [.tmp 4] [ze t24] (rT zc)
 refine W.blockK (by kernel_rfl) (fun K8 n8 s8 o8 q8 p8=>?_);refine W.loopK (by kernel_rfl) (fun I15 K15 b15 n15 e15 q15 p15=>?_)
 have L15:∀(m:Nat) (t0_16:Int) (t6:Int) (h_17:AHeap),z97 v8 k9 m t0_16 t6 h_17=some (rR,hR)→Go w0 m0 (Func.ntmps Try.f67) I15 [(0,.int .u64 t0_16),(5,v8),(6,.int .i64 t6)] [] h_17:=by
  intro m
  induction m with
  |zero=>intro t0_16 t6 h_17 hF;cases hF
  |succ m ih15=>
   intro t0_16 t6 h_17 hF;rw[z115] at hF;unfold za9 at hF;refine b15 ?_;refine W.s (fun K18 n18 e18 q18 p18=>?_);refine oG fun n19=>W.r ?_;refine oA 11 (.int .i64 t6) ?_;refine oB 12 hF fun t12 hF=>?_;refine oV [(0,.int .u64 t0_16),(5,v8),(6,.int .i64 t6),(12,.bool t12)] (n19 ?_)
   cases t12 with
   |true=>
    refine oT hF fun hF=>?_;refine oZ (n18 ?_);refine oG fun n21=>?_;refine W.blockK (by kernel_rfl) (fun K22 n22 s22 o22 q22 p22=>?_);refine oG fun n23=>W.r ?_;refine oA 15 v8 ?_;refine oA 16 (.int .i64 t6) ?_;refine oA 17 (.int .u64 t0_16) ?_;obtain⟨t18,e24,hF⟩:=z4 hF;refine WL.b (some 18) (.int .u64 t18) h_17 (z2b2 (P:=Try.prog) (h:=h_17) (t:=64) (lit:=true) e24) ?_;refine oI 19 .u8 hF fun t19 hF=>?_;refine oP 20 74 5 .i64 hF fun t20 hF=>?_;refine oW 5 (.int .u8 t19) hF fun h_27 hF=>?_;refine oV [(0,.int .u64 t0_16),(5,v8),(6,.int .i64 t6)] (n23 (W.r ?_));refine oA 21 (.int .u64 t0_16) ?_;obtain⟨t22,e29,hF⟩:=z4 hF;refine WL.b (some 22) (.int .u64 t22) h_27 (z3e3 (P:=Try.prog) (h:=h_27) (t:=64) (lit:=true) e29) ?_;refine oA 0 (.int .u64 t22) ?_;refine oV [(0,.int .u64 t22),(5,v8),(6,.int .i64 t6)] (n22 (n21 (W.r ?_)));refine oA 13 (.int .i64 t6) ?_;refine oI 14 .i64 hF fun t14 hF=>?_;refine oA 6 (.int .i64 t14) ?_;refine oV [(0,.int .u64 t22),(5,v8),(6,.int .i64 t14)] (n15 ?_);exact gW _ (ih15 _ _ _ hF)
   |false=>
    refine oU hF fun hF=>?_;refine W.exit (by kernel_rfl) ?_;refine e18 (e15 ?_);refine s8 (by kernel_rfl) ?_;exact gW _ (J9 _ hF)
 exact gW _ (L15 _ _ _ _ hF)
noncomputable def z1b4(call:z11)(_:Nat)(t0:zf)(h:AHeap):R:=callN (call 85 [.int .u32 0,ze t0] h) fun r4 h_3=>obind (z17 .u32 r4) fun t4=>some (.ret (.int .u32 t4),h_3)
set_option maxHeartbeats 4000000 in
set_option maxRecDepth 20000 in
theorem z3de{call:z11}(hc:SaysAll Try.prog call){n:Nat}{t0:zf}{h:AHeap}{rR:ARes}{hR:AHeap}(hF:z1b4 call n t0 h=some (rR,hR)):Says Try.prog 78 [ze t0] h rR hR:=by
 unfold z1b4 at hF;refine sO Try.func78 fun w0 m0=>?_;refine wW [(0,ze t0)] ?_;refine oG fun n1=>W.r ?_;refine oA 2 (.int .u32 0) ?_;refine oV [(0,ze t0)] (n1 ?_);refine oG fun n2=>W.r ?_;refine oA 3 (ze t0) ?_;refine oCi hc 4 hF fun t4 h_3 hF=>?_;refine oA 2 (.int .u32 t4) ?_;refine oV [(2,.int .u32 t4)] (n2 (oY ?_));exact lZ hF [.tmp 2] [.int .u32 t4] (rT zc)
noncomputable def zde(call:z11)(k24:Int→AHeap→R)(self:Int→Int→Int→AHeap→R)(t5_29:Int)(t7:Int)(t8:Int)(h_30:AHeap):R:=lett (decide (t8<8)) fun (t22:Bool)=>ifB t22 (obind (z498 .u32 t7 2) fun t27=>callN (call 88 [.int .u32 t5_29,.int .u32 t27] h_30) fun r28 h_38=>obind (z17 .u32 r28) fun t28=>obind (z476 .u32 t7 2) fun t30=>lett (IntKind.i64.wrap (t8+1)) fun (t24:Int)=>self t28 t30 t24 h_38) (k24 t5_29 h_30)
noncomputable def z101(call:z11)(k24:Int→AHeap→R):Nat→Int→Int→Int→AHeap→R:=z130 (fun _ _ _ _=>none) (zde call k24)
theorem z153(call:z11)(k24:Int→AHeap→R)(m:Nat):z101 call k24 (m+1)=zde call k24 (z101 call k24 m):=rfl
noncomputable def zdf(call:z11)(n:Nat)(t1:zf)(k7:Int→AHeap→R)(self:Int→Int→AHeap→R)(t5_12:Int)(t6:Int)(h_13:AHeap):R:=lett (decide (t6<(z7e t1))) fun (t14:Bool)=>ifB t14 (obind (z352 t1 t6) fun t19=>lett (IntKind.u32.wrap t19) fun (t20:Int)=>lett (fun (t5_25:Int) (h_26:AHeap)=>lett (IntKind.i64.wrap (t6+1)) fun (t16:Int)=>self t5_25 t16 h_26) fun k24=>z101 call k24 n t5_12 t20 0 h_13) (k7 t5_12 h_13)
noncomputable def z102(call:z11)(n:Nat)(t1:zf)(k7:Int→AHeap→R):Nat→Int→Int→AHeap→R:=z130 (fun _ _ _=>none) (zdf call n t1 k7)
theorem z154(call:z11)(n:Nat)(t1:zf)(k7:Int→AHeap→R)(m:Nat):z102 call n t1 k7 (m+1)=zdf call n t1 k7 (z102 call n t1 k7 m):=rfl
noncomputable def z145(call:z11)(n:Nat)(t0:Int)(t1:zf)(h:AHeap):R:=lett (comI .u32 t0) fun (t10:Int)=>lett (fun (t5:Int) (h_8:AHeap)=>lett (comI .u32 t5) fun (t32:Int)=>some (.ret (.int .u32 t32),h_8)) fun k7=>z102 call n t1 k7 n t10 0 h
set_option maxHeartbeats 4000000 in
set_option maxRecDepth 20000 in
theorem z340{call:z11}(hc:SaysAll Try.prog call){n:Nat}{t0:Int}{t1:zf}{h:AHeap}{rR:ARes}{hR:AHeap}(hF:z145 call n t0 t1 h=some (rR,hR)):Says Try.prog 85 [.int .u32 t0,ze t1] h rR hR:=by
 unfold z145 at hF;refine sO Try.func85 fun w0 m0=>?_;refine wW [(0,.int .u32 t0),(1,ze t1)] ?_;refine oG fun n1=>W.r ?_;refine oA 4 (.int .u32 0) ?_;refine oV [(0,.int .u32 t0),(1,ze t1)] (n1 ?_);refine oG fun n2=>W.r ?_;refine oA 9 (.int .u32 t0) ?_;refine oI 10 .u32 hF fun t10 hF=>?_;refine oA 5 (.int .u32 t10) ?_;refine oV [(1,ze t1),(5,.int .u32 t10)] (n2 ?_);refine W.s (fun K4 n4 e4 q4 p4=>?_);refine oG fun n5=>W.r ?_;refine oA 6 (.int .i64 0) ?_;refine oV [(1,ze t1),(5,.int .u32 t10),(6,.int .i64 0)] (n5 ?_);obtain⟨k7,e7,hF⟩:=z7 hF
 have J7:∀(t5:Int) (h_8:AHeap),k7 t5 h_8=some (rR,hR)→Go w0 m0 (Func.ntmps Try.f85) (K4 .normal) [(5,.int .u32 t5)] [] h_8:=by
  intro t5 h_8 hF;rw[e7] at hF;refine n4 ?_;refine oG fun n9=>W.r ?_;refine oA 31 (.int .u32 t5) ?_;refine oI 32 .u32 hF fun t32 hF=>?_;refine oA 4 (.int .u32 t32) ?_;refine oV [(4,.int .u32 t32)] (n9 (oY ?_));exact lZ hF [.tmp 4] [.int .u32 t32] (rT zc)
 refine W.blockK (by kernel_rfl) (fun K6 n6 s6 o6 q6 p6=>?_);refine W.loopK (by kernel_rfl) (fun I11 K11 b11 n11 e11 q11 p11=>?_)
 have L11:∀(m:Nat) (t5_12:Int) (t6:Int) (h_13:AHeap),z102 call n t1 k7 m t5_12 t6 h_13=some (rR,hR)→Go w0 m0 (Func.ntmps Try.f85) I11 [(1,ze t1),(5,.int .u32 t5_12),(6,.int .i64 t6)] [] h_13:=by
  intro m
  induction m with
  |zero=>intro t5_12 t6 h_13 hF;cases hF
  |succ m ih11=>
   intro t5_12 t6 h_13 hF;rw[z154] at hF;unfold zdf at hF;refine b11 ?_;refine W.s (fun K14 n14 e14 q14 p14=>?_);refine oG fun n15=>W.r ?_;refine oA 11 (.int .i64 t6) ?_;refine oA 12 (ze t1) ?_;refine oA 13 (.int .i64 (z7e t1)) ?_;refine oB 14 hF fun t14 hF=>?_;refine oV [(1,ze t1),(5,.int .u32 t5_12),(6,.int .i64 t6),(14,.bool t14)] (n15 ?_)
   cases t14 with
   |true=>
    refine oT hF fun hF=>?_;refine oZ (n14 ?_);refine oG fun n17=>?_;refine W.blockK (by kernel_rfl) (fun K18 n18 s18 o18 q18 p18=>?_);refine oG fun n19=>W.r ?_;refine oA 17 (ze t1) ?_;refine oA 18 (.int .i64 t6) ?_;refine oX 19 9 .i64 hF fun t19 hF=>?_;refine oI 20 .u32 hF fun t20 hF=>?_;refine oA 7 (.int .u32 t20) ?_;refine oV [(1,ze t1),(5,.int .u32 t5_12),(6,.int .i64 t6),(7,.int .u32 t20)] (n19 ?_);refine oG fun n22=>W.r ?_;refine oA 8 (.int .i64 0) ?_;refine oV [(1,ze t1),(5,.int .u32 t5_12),(6,.int .i64 t6),(7,.int .u32 t20),(8,.int .i64 0)] (n22 ?_);obtain⟨k24,e24,hF⟩:=z7 hF
    have J24:∀(t5_25:Int) (h_26:AHeap),k24 t5_25 h_26=some (rR,hR)→Go w0 m0 (Func.ntmps Try.f85) (K18 .normal) [(1,ze t1),(5,.int .u32 t5_25),(6,.int .i64 t6)] [] h_26:=by
     intro t5_25 h_26 hF;rw[e24] at hF;refine n18 (n17 (W.r ?_));refine oA 15 (.int .i64 t6) ?_;refine oI 16 .i64 hF fun t16 hF=>?_;refine oA 6 (.int .i64 t16) ?_;refine oV [(1,ze t1),(5,.int .u32 t5_25),(6,.int .i64 t16)] (n11 ?_);exact gW _ (ih11 _ _ _ hF)
    refine W.blockK (by kernel_rfl) (fun K23 n23 s23 o23 q23 p23=>?_);refine W.loopK (by kernel_rfl) (fun I28 K28 b28 n28 e28 q28 p28=>?_)
    have L28:∀(m:Nat) (t5_29:Int) (t7:Int) (t8:Int) (h_30:AHeap),z101 call k24 m t5_29 t7 t8 h_30=some (rR,hR)→Go w0 m0 (Func.ntmps Try.f85) I28 [(1,ze t1),(5,.int .u32 t5_29),(6,.int .i64 t6),(7,.int .u32 t7),(8,.int .i64 t8)] [] h_30:=by
     intro m
     induction m with
     |zero=>intro t5_29 t7 t8 h_30 hF;cases hF
     |succ m ih28=>
      intro t5_29 t7 t8 h_30 hF;rw[z153] at hF;unfold zde at hF;refine b28 ?_;refine W.s (fun K31 n31 e31 q31 p31=>?_);refine oG fun n32=>W.r ?_;refine oA 21 (.int .i64 t8) ?_;refine oB 22 hF fun t22 hF=>?_;refine oV [(1,ze t1),(5,.int .u32 t5_29),(6,.int .i64 t6),(7,.int .u32 t7),(8,.int .i64 t8),(22,.bool t22)] (n32 ?_)
      cases t22 with
      |true=>
       refine oT hF fun hF=>?_;refine oZ (n31 ?_);refine oG fun n34=>?_;refine W.blockK (by kernel_rfl) (fun K35 n35 s35 o35 q35 p35=>?_);refine oG fun n36=>W.r ?_;refine oA 25 (.int .u32 t5_29) ?_;refine oA 26 (.int .u32 t7) ?_;obtain⟨t27,e37,hF⟩:=z4 hF;refine WL.b (some 27) (.int .u32 t27) h_30 (z2b2 (P:=Try.prog) (h:=h_30) (t:=148) (lit:=true) e37) ?_;refine oCi hc 28 hF fun t28 h_38 hF=>?_;refine oA 5 (.int .u32 t28) ?_;refine oV [(1,ze t1),(5,.int .u32 t28),(6,.int .i64 t6),(7,.int .u32 t7),(8,.int .i64 t8)] (n36 (W.r ?_));refine oA 29 (.int .u32 t7) ?_;obtain⟨t30,e41,hF⟩:=z4 hF;refine WL.b (some 30) (.int .u32 t30) h_38 (z3e3 (P:=Try.prog) (h:=h_38) (t:=148) (lit:=true) e41) ?_;refine oA 7 (.int .u32 t30) ?_;refine oV [(1,ze t1),(5,.int .u32 t28),(6,.int .i64 t6),(7,.int .u32 t30),(8,.int .i64 t8)] (n35 (n34 (W.r ?_)));refine oA 23 (.int .i64 t8) ?_;refine oI 24 .i64 hF fun t24 hF=>?_;refine oA 8 (.int .i64 t24) ?_;refine oV [(1,ze t1),(5,.int .u32 t28),(6,.int .i64 t6),(7,.int .u32 t30),(8,.int .i64 t24)] (n28 ?_);exact gW _ (ih28 _ _ _ _ hF)
      |false=>
       refine oU hF fun hF=>?_;refine W.exit (by kernel_rfl) ?_;refine e31 (e28 ?_);refine s23 (by kernel_rfl) ?_;exact gW _ (J24 _ _ hF)
    exact gW _ (L28 _ _ _ _ _ hF)
   |false=>
    refine oU hF fun hF=>?_;refine W.exit (by kernel_rfl) ?_;refine e14 (e11 ?_);refine s6 (by kernel_rfl) ?_;exact gW _ (J7 _ _ hF)
 exact gW _ (L11 _ _ _ _ hF)
noncomputable def z144(_:z11)(_:Nat)(t0:Int)(t1:Int)(h:AHeap):R:=lett (IntKind.u32.wrap (t0+t1)) fun (t8:Int)=>obind (z498 .u32 t8 2) fun t9=>obind (z476 .u32 t0 2) fun t11=>lett ((t9:Int) == 1) fun (t13:Bool)=>lett (fun (t0_11:Int) (h_12:AHeap)=>some (.ret (.int .u32 t0_11),h_12)) fun k10=>ifB t13 (lett (xorI .u32 t11 2197175160) fun (t15:Int)=>k10 t15 h) (k10 t11 h)
set_option maxHeartbeats 4000000 in
set_option maxRecDepth 20000 in
theorem z33f{call:z11}(_:SaysAll Try.prog call){n:Nat}{t0:Int}{t1:Int}{h:AHeap}{rR:ARes}{hR:AHeap}(hF:z144 call n t0 t1 h=some (rR,hR)):Says Try.prog 88 [.int .u32 t0,.int .u32 t1] h rR hR:=by
 unfold z144 at hF;refine sO Try.func88 fun w0 m0=>?_;refine wW [(0,.int .u32 t0),(1,.int .u32 t1)] ?_;refine oG fun n1=>W.r ?_;refine oA 4 (.int .u32 0) ?_;refine oV [(0,.int .u32 t0),(1,.int .u32 t1)] (n1 ?_);refine oG fun n2=>W.r ?_;refine oA 6 (.int .u32 t0) ?_;refine oA 7 (.int .u32 t1) ?_;refine oI 8 .u32 hF fun t8 hF=>?_;obtain⟨t9,e4,hF⟩:=z4 hF;refine WL.b (some 9) (.int .u32 t9) h (z2b2 (P:=Try.prog) (h:=h) (t:=148) (lit:=true) e4) ?_;refine oA 5 (.int .u32 t9) ?_;refine oV [(0,.int .u32 t0),(5,.int .u32 t9)] (n2 ?_);refine oG fun n5=>W.r ?_;refine oA 10 (.int .u32 t0) ?_;obtain⟨t11,e6,hF⟩:=z4 hF;refine WL.b (some 11) (.int .u32 t11) h (z3e3 (P:=Try.prog) (h:=h) (t:=148) (lit:=true) e6) ?_;refine oA 0 (.int .u32 t11) ?_;refine oV [(0,.int .u32 t11),(5,.int .u32 t9)] (n5 ?_);refine W.s (fun K7 n7 e7 q7 p7=>?_);refine oG fun n8=>W.r ?_;refine oA 12 (.int .u32 t9) ?_;refine oB 13 hF fun t13 hF=>?_;refine oV [(0,.int .u32 t11),(13,.bool t13)] (n8 ?_);obtain⟨k10,e10,hF⟩:=z7 hF
 have J10:∀(t0_11:Int) (h_12:AHeap),k10 t0_11 h_12=some (rR,hR)→Go w0 m0 (Func.ntmps Try.f88) (K7 .normal) [(0,.int .u32 t0_11)] [] h_12:=by
  intro t0_11 h_12 hF;rw[e10] at hF;refine n7 ?_;refine oG fun n13=>W.r ?_;refine oA 16 (.int .u32 t0_11) ?_;refine oA 4 (.int .u32 t0_11) ?_;refine oV [(4,.int .u32 t0_11)] (n13 (oY ?_));exact lZ hF [.tmp 4] [.int .u32 t0_11] (rT zc)
 cases t13 with
 |true=>
  refine oT hF fun hF=>?_;refine W.r ?_;refine oA 14 (.int .u32 t11) ?_;refine oI 15 .u32 hF fun t15 hF=>?_;refine oA 0 (.int .u32 t15) ?_;refine oV [(0,.int .u32 t15)] ?_;exact gW _ (J10 _ _ hF)
 |false=>
  refine oU hF fun hF=>?_;refine oZ ?_;exact gW _ (J10 _ _ hF)
noncomputable def z171(_:z11)(_:Nat)(t0:List AV)(h:AHeap):R:=outK (zba h 39 (some (.agg t0))) fun v1 h_2=>obind (z20 0 v1) fun t3=>obind (z9 h_2 t3) fun v4=>obind (z17 .i64 v4) fun t4=>lett (decide (t4≥0)) fun (t5:Bool)=>lett (fun (t10:Bool) (h_9:AHeap)=>lett (fun (t15:Bool) (h_12:AHeap)=>lett (fun (t20:Bool) (h_15:AHeap)=>some (.ret (.bool t20),h_15)) fun j20=>ifB t15 (obind (z20 1 v1) fun t17=>obind (z9 h_12 t17) fun v18=>obind (z17 .i64 v18) fun t18=>lett (decide (t18≤2)) fun (t19:Bool)=>j20 t19 h_12) (j20 false h_12)) fun j15=>ifB t10 (obind (z20 1 v1) fun t12=>obind (z9 h_9 t12) fun v13=>obind (z17 .i64 v13) fun t13=>lett (decide (t13≥(-1))) fun (t14:Bool)=>j15 t14 h_9) (j15 false h_9)) fun j10=>ifB t5 (obind (z20 0 v1) fun t7=>obind (z9 h_2 t7) fun v8=>obind (z17 .i64 v8) fun t8=>lett (decide (t8≤1099511627776)) fun (t9:Bool)=>j10 t9 h_2) (j10 false h_2)
set_option maxHeartbeats 4000000 in
set_option maxRecDepth 20000 in
theorem z394{call:z11}(_:SaysAll Try.prog call){n:Nat}{t0:List AV}{h:AHeap}{rR:ARes}{hR:AHeap}(hF:z171 call n t0 h=some (rR,hR)):Says Try.prog 18 [.agg t0] h rR hR:=by
 unfold z171 at hF;refine sO Try.func18 fun w0 m0=>?_;refine wW [(0,.agg t0)] ?_;refine oG fun n1=>W.r ?_;refine oK 1 hF fun v1 h_2 hF=>?_;refine oA 2 (.bool false) ?_;refine oV [(1,v1)] (n1 ?_);refine W.s (fun K4 n4 e4 q4 p4=>?_);refine W.r ?_;refine oF 3 39 0 hF fun t3 hF=>?_;refine oLi 4 3 hF fun t4 hF=>?_;refine oB 5 hF fun t5 hF=>?_;refine oA 6 (.bool t5) ?_;obtain⟨j10,e10,hF⟩:=z7 hF
 have J11:∀(t10:Bool) (h_9:AHeap),j10 t10 h_9=some (rR,hR)→WL Try.prog w0 m0 (Func.ntmps Try.f18) (Code.ops (y6 (y4 (z3d Try.f18)))) 8 K4 [(1,v1),(10,.bool t10)] [] h_9:=by
  intro t10 h_9 hF;rw[e10] at hF;refine oA 11 (.bool t10) ?_;obtain⟨j15,e13,hF⟩:=z7 hF
  have J14:∀(t15:Bool) (h_12:AHeap),j15 t15 h_12=some (rR,hR)→WL Try.prog w0 m0 (Func.ntmps Try.f18) (Code.ops (y6 (y4 (z3d Try.f18)))) 13 K4 [(1,v1),(15,.bool t15)] [] h_12:=by
   intro t15 h_12 hF;rw[e13] at hF;refine oA 16 (.bool t15) ?_;obtain⟨j20,e16,hF⟩:=z7 hF
   have J17:∀(t20:Bool) (h_15:AHeap),j20 t20 h_15=some (rR,hR)→WL Try.prog w0 m0 (Func.ntmps Try.f18) (Code.ops (y6 (y4 (z3d Try.f18)))) 18 K4 [(20,.bool t20)] [] h_15:=by
    intro t20 h_15 hF;rw[e16] at hF;refine oA 2 (.bool t20) ?_;refine oV [(2,.bool t20)] (n4 (oY ?_));exact lZ hF [.tmp 2] [.bool t20] (rT zc)
   cases t15 with
   |true=>
    replace hF:=z53 hF
    refine oF 17 39 1 hF fun t17 hF=>?_;refine oLi 18 3 hF fun t18 hF=>?_;refine oB 19 hF fun t19 hF=>?_;refine oA 20 (.bool t19) ?_;exact lW _ (J17 _ _ hF)
   |false=>
    replace hF:=z54 hF
    refine WL.o (some 17) ?_;refine WL.o (some 18) ?_;refine WL.o (some 19) ?_;refine oA 20 (.bool false) ?_;exact lW _ (J17 _ _ hF)
  cases t10 with
  |true=>
   replace hF:=z53 hF
   refine oF 12 39 1 hF fun t12 hF=>?_;refine oLi 13 3 hF fun t13 hF=>?_;refine oB 14 hF fun t14 hF=>?_;refine oA 15 (.bool t14) ?_;exact lW _ (J14 _ _ hF)
  |false=>
   replace hF:=z54 hF
   refine WL.o (some 12) ?_;refine WL.o (some 13) ?_;refine WL.o (some 14) ?_;refine oA 15 (.bool false) ?_;exact lW _ (J14 _ _ hF)
 cases t5 with
 |true=>
  replace hF:=z53 hF
  refine oF 7 39 0 hF fun t7 hF=>?_;refine oLi 8 3 hF fun t8 hF=>?_;refine oB 9 hF fun t9 hF=>?_;refine oA 10 (.bool t9) ?_;exact lW _ (J11 _ _ hF)
 |false=>
  replace hF:=z54 hF
  refine WL.o (some 7) ?_;refine WL.o (some 8) ?_;refine WL.o (some 9) ?_;refine oA 10 (.bool false) ?_;exact lW _ (J11 _ _ hF)
noncomputable def zdb(call:z11)(v23:AV)(t5:Int)(v42:AV)(k55:Int→Int→Bool→AHeap→R)(self:Int→Int→Bool→Int→AHeap→R)(t10_85:Int)(t11_86:Int)(t12_87:Bool)(t13:Int)(h_88:AHeap):R:=
 obind (z197 v42) fun t46=>
 lett (decide (t13<t46)) fun (t47:Bool)=>
 ifB t47
 (
  obind (z18d 1 v42 t13) fun t52=>
  obind (z9 h_88 t52) fun v53=>
  obind (z31 v53) fun t53=>
  lett (((z7e t53):Int) != 17) fun (t56:Bool)=>
  lett (fun (t61:Bool) (h_102:AHeap)=>
   lett (fun (t66:Bool) (h_105:AHeap)=>
    lett (fun (t72:Bool) (h_108:AHeap)=>
     lett (fun (t77:Bool) (h_111:AHeap)=>
      ifB t77
      (
       k55 t10_85 t11_86 t12_87 h_111)
      (
       lett (IntKind.i64.wrap (t10_85+29)) fun (t79:Int)=>
       lett (IntKind.i64.wrap (t11_86+1)) fun (t81:Int)=>
       obind (z34 v23) fun t85=>
       obind (z20 3 t85) fun t86=>
       obind (z9 h_111 t86) fun v87=>
       obind (z17 .u64 v87) fun t87=>
       callN (call 43 [ze t53] h_111) fun r83 h_123=>
       obind (z17 .u64 r83) fun t83=>
       chk (z6e Try.prog h_123 64 t86 (.int .u64 t87)&&true)<|
       lett (decide (t83>t87)) fun (t88:Bool)=>
       lett (fun (t12_129:Bool) (h_130:AHeap)=>
        lett (IntKind.i64.wrap (t13+1)) fun (t49:Int)=>
        self t79 t81 t12_129 t49 h_130) fun k128=>
       ifB t88
       (
        callN (call 43 [ze t53] h_123) fun r91 h_133=>
        obind (z17 .u64 r91) fun t91=>
        obind (z34 v23) fun t92=>
        obind (z20 3 t92) fun t93=>
        obind (z27 h_133 1 [.int .u64 t91] t93) fun h_138=>
        obind (z5f t53 8 (z7e t53)) fun t96=>
        obind (z352 t53 16) fun t100=>
        lett (IntKind.i64.wrap t100) fun (t101:Int)=>
        lett (IntKind.i64.wrap (t101 - 1)) fun (t102:Int)=>
        callN (call 43 [ze t96] h_138) fun r97 h_145=>
        obind (z17 .u64 r97) fun t97=>
        lett (IntKind.i64.wrap t97) fun (t98:Int)=>
        obind (z34 v23) fun t104=>
        obind (z20 1 t104) fun t105=>
        obind (z27 h_145 2 ([.int .i64 t98,.int .i64 t102]:List AV) t105) fun h_151=>
        obind (z34 v23) fun t108=>
        obind (z20 4 t108) fun t109=>
        obind (z27 h_151 1 [.int .i64 t5] t109) fun h_156=>
        k128 true h_156)
       (
        k128 t12_87 h_123))) fun j77=>
     ifB t72
     (
      j77 true h_108)
     (
      obind (z352 t53 16) fun t75=>
      lett (decide (t75>3)) fun (t76:Bool)=>
      j77 t76 h_108)) fun j72=>
    ifB t66
    (
     j72 true h_105)
    (
     obind (z5f t53 8 (z7e t53)) fun t69=>
     callN (call 43 [ze t69] h_105) fun r70 h_161=>
     obind (z17 .u64 r70) fun t70=>
     lett (decide (t70>1099511627776)) fun (t71:Bool)=>
     j72 t71 h_161)) fun j66=>
   ifB t61
   (
    j66 true h_102)
   (
    callN (call 43 [ze t53] h_102) fun r64 h_165=>
    obind (z17 .u64 r64) fun t64=>
    lett (decide (t64>4611686018427387904)) fun (t65:Bool)=>
    j66 t65 h_165)) fun j61=>
  ifB t56
  (
   j61 true h_88)
  (
   callN (call 43 [ze t53] h_88) fun r59 h_169=>
   obind (z17 .u64 r59) fun t59=>
   lett ((t59:Int) == 0) fun (t60:Bool)=>
   j61 t60 h_169))
 (
  k55 t10_85 t11_86 t12_87 h_88)
noncomputable def zfe(call:z11)(v23:AV)(t5:Int)(v42:AV)(k55:Int→Int→Bool→AHeap→R):Nat→Int→Int→Bool→Int→AHeap→R:=z130 (fun _ _ _ _ _=>none) (zdb call v23 t5 v42 k55)
theorem z14f(call:z11)(v23:AV)(t5:Int)(v42:AV)(k55:Int→Int→Bool→AHeap→R)(m:Nat):zfe call v23 t5 v42 k55 (m+1)=zdb call v23 t5 v42 k55 (zfe call v23 t5 v42 k55 m):=rfl
noncomputable def zdc(call:z11)(n:Nat)(t0:AV)(v23:AV)(k17:AHeap→R)(self:Int→AHeap→R)(t5:Int)(h_21:AHeap):R:=lett (decide (t5<2)) fun (t25:Bool)=>ifB t25 (lett (fun (h_28:AHeap)=>lett (IntKind.i64.wrap (t5+1)) fun (t27:Int)=>self t27 h_28) fun k27=>callN (call 41 [t0,.int .i64 t5] h_21) fun r31 h_31=>obind (z160 0 r31) fun v32=>obind (z31 v32) fun t32=>obind (z160 1 r31) fun v33=>obind (z17 .i64 v33) fun t33=>lett ((t33:Int) == 4) fun (t35:Bool)=>ifB t35 (k27 h_31) (lett ((t33:Int) != 0) fun (t37:Bool)=>ifB t37 (some (.ret (.tup [AV.nilp,.int .i64 t33]),h_31)) (callN (call 42 [ze t32] h_31) fun r41 h_45=>obind (z160 0 r41) fun v42=>obind (z160 1 r41) fun v43=>obind (z17 .i64 v43) fun _=>lett (fun (t10:Int) (t11:Int) (t12:Bool) (h_56:AHeap)=>lett (fun (h_60:AHeap)=>lett (decide (t10<(z7e t32))) fun (t118:Bool)=>lett (fun (h_64:AHeap)=>k27 h_64) fun k63=>ifB t118 (callN (call 23 [t0,.int .i64 t5,.agg ([.int .i64 2,.str 0 0,.int .i64 t10]:List AV)] h_60) fun r123 h_66=>obind (z17 .i64 r123) fun t123=>lett ((t123:Int) == 0) fun (t125:Bool)=>lett (fun (t7:Int) (h_73:AHeap)=>lett ((t7:Int) != 0) fun (t130:Bool)=>ifB t130 (some (.ret (.tup [AV.nilp,.int .i64 t7]),h_73)) (k63 h_73)) fun k72=>ifB t125 (callN (call 44 [t0,.int .i64 t5] h_66) fun r128 h_77=>obind (z17 .i64 r128) fun t128=>k72 t128 h_77) (k72 t123 h_66)) (k63 h_60)) fun k59=>ifB t12 (obind (z34 v23) fun t113=>obind (z20 5 t113) fun t114=>obind (z27 h_56 1 [.int .i64 t11] t114) fun h_82=>k59 h_82) (k59 h_56)) fun k55=>zfe call v23 t5 v42 k55 n 0 0 false 0 h_45))) (k17 h_21)
noncomputable def z5b(call:z11)(n:Nat)(t0:AV)(v23:AV)(k17:AHeap→R):Nat→Int→AHeap→R:=z130 (fun _ _=>none) (zdc call n t0 v23 k17)
theorem z150(call:z11)(n:Nat)(t0:AV)(v23:AV)(k17:AHeap→R)(m:Nat):z5b call n t0 v23 k17 (m+1)=zdc call n t0 v23 k17 (z5b call n t0 v23 k17 m):=rfl
noncomputable def z141(call:z11)(n:Nat)(t0:AV)(h:AHeap):R:=obind (z34 t0) fun t16=>obind (z20 96 t16) fun t17=>obind (z9 h t17) fun v18=>obind (z17 .i64 v18) fun t18=>lett ((t18:Int) == 0) fun (t19:Bool)=>ifB t19 (some (.ret (.tup [AV.nilp,.int .i64 40]),h)) (obind (z36d Try.prog 66 [(0,t0),(1,.agg ([.int .i64 0,.int .i64 (-1)]:List AV)),(3,.int .i64 1),(4,.int .i64 8)]) fun t22=>outK (zba h 66 (some (.agg t22))) fun v23 h_12=>lett (fun (h_18:AHeap)=>some (.ret (.tup [v23,.int .i64 0]),h_18)) fun k17=>z5b call n t0 v23 k17 n 0 h_12)
set_option maxHeartbeats 4000000 in
set_option maxRecDepth 20000 in
theorem z33a{call:z11}(hc:SaysAll Try.prog call){n:Nat}{t0:AV}{h:AHeap}{rR:ARes}{hR:AHeap}(hF:z141 call n t0 h=some (rR,hR)):Says Try.prog 21 [t0] h rR hR:=by
 unfold z141 at hF;refine sO Try.func21 fun w0 m0=>?_;refine wW [(0,t0)] ?_;refine oG fun n1=>W.r ?_;refine oA 2 AV.nilp ?_;refine oA 3 (.int .i64 0) ?_;refine oV [(0,t0)] (n1 ?_);refine oH fun n2 q2=>?_;refine oG fun n3=>W.r ?_;refine oA 15 t0 ?_;refine oC0 16 hF fun t16 hF=>?_;refine oF 17 62 1 hF fun t17 hF=>?_;refine oLi 18 3 hF fun t18 hF=>?_;refine oB 19 hF fun t19 hF=>?_;refine oV [(0,t0),(19,.bool t19)] (n3 ?_)
 cases t19 with
 |true=>
  refine oT hF fun hF=>?_;refine oG fun n9=>W.r ?_;refine oA 2 AV.nilp ?_;refine oA 3 (.int .i64 40) ?_;refine oV [(2,AV.nilp),(3,.int .i64 40)] (n9 (oY (q2 ?_)));exact lZ hF [.tmp 2,.tmp 3] [AV.nilp,.int .i64 40] (rT (rT zc))
 |false=>
  refine oU hF fun hF=>?_;refine oZ (n2 ?_);refine oG fun n10=>W.r ?_;refine oA 20 t0 ?_;refine oA 21 (.agg ([.int .i64 0,.int .i64 (-1)]:List AV)) ?_;obtain⟨t22,e11,hF⟩:=z4 hF;refine WL.val (d:=(some 22)) (v:=.agg t22) (h':=h) (by kernel_rfl) (by kernel_rfl) (z1ac (by kernel_rfl) e11) ?_;refine oK 23 hF fun v23 h_12 hF=>?_;refine oA 4 v23 ?_;refine oV [(0,t0),(4,v23)] (n10 ?_);refine W.s (fun K14 n14 e14 q14 p14=>?_);refine oG fun n15=>W.r ?_;refine oA 5 (.int .i64 0) ?_;refine oV [(0,t0),(4,v23),(5,.int .i64 0)] (n15 ?_);obtain⟨k17,e17,hF⟩:=z7 hF
  have J17:∀(h_18:AHeap),k17 h_18=some (rR,hR)→Go w0 m0 (Func.ntmps Try.f21) (K14 .normal) [(4,v23)] [] h_18:=by
   intro h_18 hF;rw[e17] at hF;refine n14 ?_;refine oG fun n19=>W.r ?_;refine oA 132 v23 ?_;refine oA 2 v23 ?_;refine oA 3 (.int .i64 0) ?_;refine oV [(2,v23),(3,.int .i64 0)] (n19 (oY ?_));exact lZ hF [.tmp 2,.tmp 3] [v23,.int .i64 0] (rT (rT zc))
  refine W.blockK (by kernel_rfl) (fun K16 n16 s16 o16 q16 p16=>?_);refine W.loopK (by kernel_rfl) (fun I20 K20 b20 n20 e20 q20 p20=>?_)
  have L20:∀(m:Nat) (t5:Int) (h_21:AHeap),z5b call n t0 v23 k17 m t5 h_21=some (rR,hR)→Go w0 m0 (Func.ntmps Try.f21) I20 [(0,t0),(4,v23),(5,.int .i64 t5)] [] h_21:=by
   intro m
   induction m with
   |zero=>intro t5 h_21 hF;cases hF
   |succ m ih20=>
    intro t5 h_21 hF;rw[z150] at hF;unfold zdc at hF;refine b20 ?_;refine W.s (fun K22 n22 e22 q22 p22=>?_);refine oG fun n23=>W.r ?_;refine oA 24 (.int .i64 t5) ?_;refine oB 25 hF fun t25 hF=>?_;refine oV [(0,t0),(4,v23),(5,.int .i64 t5),(25,.bool t25)] (n23 ?_)
    cases t25 with
    |true=>
     refine oT hF fun hF=>?_;refine oZ (n22 ?_);refine W.s (fun K25 n25 e25 q25 p25=>?_);obtain⟨k27,e27,hF⟩:=z7 hF
     have J27:∀(h_28:AHeap),k27 h_28=some (rR,hR)→Go w0 m0 (Func.ntmps Try.f21) (K25 .normal) [(0,t0),(4,v23),(5,.int .i64 t5)] [] h_28:=by
      intro h_28 hF;rw[e27] at hF;refine n25 (W.r ?_);refine oA 26 (.int .i64 t5) ?_;refine oI 27 .i64 hF fun t27 hF=>?_;refine oA 5 (.int .i64 t27) ?_;refine oV [(0,t0),(4,v23),(5,.int .i64 t27)] (n20 ?_);exact gW _ (ih20 _ _ hF)
     refine W.blockK (by kernel_rfl) (fun K26 n26 s26 o26 q26 p26=>?_);refine oG fun n30=>W.r ?_;refine oA 29 t0 ?_;refine oA 30 (.int .i64 t5) ?_;refine oC hc (some 31) hF fun r31 h_31 hF=>?_;refine oA 28 r31 ?_;refine oEs 32 hF fun t32 hF=>?_;refine oEi 33 hF fun t33 hF=>?_;refine oA 6 (ze t32) ?_;refine oA 7 (.int .i64 t33) ?_;refine oV [(0,t0),(4,v23),(5,.int .i64 t5),(6,ze t32),(7,.int .i64 t33)] (n30 ?_);refine W.s (fun K37 n37 e37 q37 p37=>?_);refine oG fun n38=>W.r ?_;refine oA 34 (.int .i64 t33) ?_;refine oB 35 hF fun t35 hF=>?_;refine oV [(0,t0),(4,v23),(5,.int .i64 t5),(6,ze t32),(7,.int .i64 t33),(35,.bool t35)] (n38 ?_)
     cases t35 with
     |true=>
      refine oT hF fun hF=>?_;refine W.exit (by kernel_rfl) ?_;refine e37 ?_;refine s26 (by kernel_rfl) ?_;exact gW _ (J27 _ hF)
     |false=>
      refine oU hF fun hF=>?_;refine oZ (n37 ?_);refine oH fun n40 q40=>?_;refine oG fun n41=>W.r ?_;refine oA 36 (.int .i64 t33) ?_;refine oB 37 hF fun t37 hF=>?_;refine oV [(0,t0),(4,v23),(5,.int .i64 t5),(6,ze t32),(7,.int .i64 t33),(37,.bool t37)] (n41 ?_)
      cases t37 with
      |true=>
       refine oT hF fun hF=>?_;refine oG fun n43=>W.r ?_;refine oA 38 (.int .i64 t33) ?_;refine oA 2 AV.nilp ?_;refine oA 3 (.int .i64 t33) ?_;refine oV [(2,AV.nilp),(3,.int .i64 t33)] (n43 (oY (q40 (q26 (q25 (q20 (q16 (q14 ?_))))))));exact lZ hF [.tmp 2,.tmp 3] [AV.nilp,.int .i64 t33] (rT (rT zc))
      |false=>
       refine oU hF fun hF=>?_;refine oZ (n40 ?_);refine oG fun n44=>W.r ?_;refine oA 40 (ze t32) ?_;refine oC hc (some 41) hF fun r41 h_45 hF=>?_;refine oA 39 r41 ?_;refine oE 42 hF fun v42 hF=>?_;refine oEi 43 hF fun t43 hF=>?_;refine oA 8 v42 ?_;refine oA 9 (.int .i64 t43) ?_;refine oV [(0,t0),(4,v23),(5,.int .i64 t5),(6,ze t32),(8,v42)] (n44 ?_);refine oG fun n50=>W.r ?_;refine oA 10 (.int .i64 0) ?_;refine oA 11 (.int .i64 0) ?_;refine oV [(0,t0),(4,v23),(5,.int .i64 t5),(6,ze t32),(8,v42),(10,.int .i64 0),(11,.int .i64 0)] (n50 ?_);refine oG fun n51=>W.r ?_;refine oA 12 (.bool false) ?_;refine oV [(0,t0),(4,v23),(5,.int .i64 t5),(6,ze t32),(8,v42),(10,.int .i64 0),(11,.int .i64 0),(12,.bool false)] (n51 ?_);refine W.s (fun K52 n52 e52 q52 p52=>?_);refine oG fun n53=>W.r ?_;refine oA 13 (.int .i64 0) ?_;refine oV [(0,t0),(4,v23),(5,.int .i64 t5),(6,ze t32),(8,v42),(10,.int .i64 0),(11,.int .i64 0),(12,.bool false),(13,.int .i64 0)] (n53 ?_);obtain⟨k55,e55,hF⟩:=z7 hF
       have J55:∀(t10:Int) (t11:Int) (t12:Bool) (h_56:AHeap),k55 t10 t11 t12 h_56=some (rR,hR)→Go w0 m0 (Func.ntmps Try.f21) (K52 .normal) [(0,t0),(4,v23),(5,.int .i64 t5),(6,ze t32),(10,.int .i64 t10),(11,.int .i64 t11),(12,.bool t12)] [] h_56:=by
        intro t10 t11 t12 h_56 hF;rw[e55] at hF;refine n52 ?_;refine W.s (fun K57 n57 e57 q57 p57=>?_);refine oG fun n58=>W.r ?_;refine oA 110 (.bool t12) ?_;refine oV [(0,t0),(4,v23),(5,.int .i64 t5),(6,ze t32),(10,.int .i64 t10),(11,.int .i64 t11),(110,.bool t12)] (n58 ?_);obtain⟨k59,e59,hF⟩:=z7 hF
        have J59:∀(h_60:AHeap),k59 h_60=some (rR,hR)→Go w0 m0 (Func.ntmps Try.f21) (K57 .normal) [(0,t0),(4,v23),(5,.int .i64 t5),(6,ze t32),(10,.int .i64 t10)] [] h_60:=by
         intro h_60 hF;rw[e59] at hF;refine n57 ?_;refine oG fun n61=>W.r ?_;refine oA 115 (.int .i64 t10) ?_;refine oA 116 (ze t32) ?_;refine oA 117 (.int .i64 (z7e t32)) ?_;refine oB 118 hF fun t118 hF=>?_;refine oV [(0,t0),(4,v23),(5,.int .i64 t5),(10,.int .i64 t10),(118,.bool t118)] (n61 ?_);obtain⟨k63,e63,hF⟩:=z7 hF
         have J63:∀(h_64:AHeap),k63 h_64=some (rR,hR)→Go w0 m0 (Func.ntmps Try.f21) (K26 .normal) [(0,t0),(4,v23),(5,.int .i64 t5)] [] h_64:=by
          intro h_64 hF;rw[e63] at hF;refine n26 ?_;exact gW _ (J27 _ hF)
         cases t118 with
         |true=>
          refine oT hF fun hF=>?_;refine oG fun n65=>W.r ?_;refine oA 119 t0 ?_;refine oA 120 (.int .i64 t5) ?_;refine oA 121 (.int .i64 t10) ?_;refine oA 122 (.agg ([.int .i64 2,.str 0 0,.int .i64 t10]:List AV)) ?_;refine oCi hc 123 hF fun t123 h_66 hF=>?_;refine oA 7 (.int .i64 t123) ?_;refine oV [(0,t0),(4,v23),(5,.int .i64 t5),(7,.int .i64 t123)] (n65 ?_);refine W.s (fun K69 n69 e69 q69 p69=>?_);refine oG fun n70=>W.r ?_;refine oA 124 (.int .i64 t123) ?_;refine oB 125 hF fun t125 hF=>?_;refine oV [(0,t0),(4,v23),(5,.int .i64 t5),(7,.int .i64 t123),(125,.bool t125)] (n70 ?_);obtain⟨k72,e72,hF⟩:=z7 hF
          have J72:∀(t7:Int) (h_73:AHeap),k72 t7 h_73=some (rR,hR)→Go w0 m0 (Func.ntmps Try.f21) (K69 .normal) [(0,t0),(4,v23),(5,.int .i64 t5),(7,.int .i64 t7)] [] h_73:=by
           intro t7 h_73 hF;rw[e72] at hF;refine n69 ?_;refine oG fun n74=>W.r ?_;refine oA 129 (.int .i64 t7) ?_;refine oB 130 hF fun t130 hF=>?_;refine oV [(0,t0),(4,v23),(5,.int .i64 t5),(7,.int .i64 t7),(130,.bool t130)] (n74 ?_)
           cases t130 with
           |true=>
            refine oT hF fun hF=>?_;refine oG fun n76=>W.r ?_;refine oA 131 (.int .i64 t7) ?_;refine oA 2 AV.nilp ?_;refine oA 3 (.int .i64 t7) ?_;refine oV [(2,AV.nilp),(3,.int .i64 t7)] (n76 (oY (q26 (q25 (q20 (q16 (q14 ?_)))))));exact lZ hF [.tmp 2,.tmp 3] [AV.nilp,.int .i64 t7] (rT (rT zc))
           |false=>
            refine oU hF fun hF=>?_;refine oZ ?_;exact gW _ (J63 _ hF)
          cases t125 with
          |true=>
           refine oT hF fun hF=>?_;refine W.r ?_;refine oA 126 t0 ?_;refine oA 127 (.int .i64 t5) ?_;refine oCi hc 128 hF fun t128 h_77 hF=>?_;refine oA 7 (.int .i64 t128) ?_;refine oV [(0,t0),(4,v23),(5,.int .i64 t5),(7,.int .i64 t128)] ?_;exact gW _ (J72 _ _ hF)
          |false=>
           refine oU hF fun hF=>?_;refine oZ ?_;exact gW _ (J72 _ _ hF)
         |false=>
          refine oU hF fun hF=>?_;refine oZ ?_;exact gW _ (J63 _ hF)
        cases t12 with
        |true=>
         refine oT hF fun hF=>?_;refine W.r ?_;refine oA 111 v23 ?_;refine oA 112 (.int .i64 t11) ?_;refine oC0 113 hF fun t113 hF=>?_;refine oF 114 66 4 hF fun t114 hF=>?_;refine oW 3 (.int .i64 t11) hF fun h_82 hF=>?_;refine oV [(0,t0),(4,v23),(5,.int .i64 t5),(6,ze t32),(10,.int .i64 t10)] ?_;exact gW _ (J59 _ hF)
        |false=>
         refine oU hF fun hF=>?_;refine oZ ?_;exact gW _ (J59 _ hF)
       refine W.blockK (by kernel_rfl) (fun K54 n54 s54 o54 q54 p54=>?_);refine W.loopK (by kernel_rfl) (fun I84 K84 b84 n84 e84 q84 p84=>?_)
       have L84:∀(m:Nat) (t10_85:Int) (t11_86:Int) (t12_87:Bool) (t13:Int) (h_88:AHeap),zfe call v23 t5 v42 k55 m t10_85 t11_86 t12_87 t13 h_88=some (rR,hR)→Go w0 m0 (Func.ntmps Try.f21) I84 [(0,t0),(4,v23),(5,.int .i64 t5),(6,ze t32),(8,v42),(10,.int .i64 t10_85),(11,.int .i64 t11_86),(12,.bool t12_87),(13,.int .i64 t13)] [] h_88:=by
        intro m
        induction m with
        |zero=>intro t10_85 t11_86 t12_87 t13 h_88 hF;cases hF
        |succ m ih84=>
         intro t10_85 t11_86 t12_87 t13 h_88 hF;rw[z14f] at hF;unfold zdb at hF;refine b84 ?_;refine W.s (fun K89 n89 e89 q89 p89=>?_);refine oG fun n90=>W.r ?_;refine oA 44 (.int .i64 t13) ?_;refine oA 45 v42 ?_;refine oM 46 103 9 hF fun t46 hF=>?_;refine oB 47 hF fun t47 hF=>?_;refine oV [(0,t0),(4,v23),(5,.int .i64 t5),(6,ze t32),(8,v42),(10,.int .i64 t10_85),(11,.int .i64 t11_86),(12,.bool t12_87),(13,.int .i64 t13),(47,.bool t47)] (n90 ?_)
         cases t47 with
         |true=>
          refine oT hF fun hF=>?_;refine oZ (n89 ?_);refine W.s (fun K93 n93 e93 q93 p93=>?_);refine W.blockK (by kernel_rfl) (fun K94 n94 s94 o94 q94 p94=>?_);refine oG fun n95=>W.r ?_;refine oA 50 v42 ?_;refine oA 51 (.int .i64 t13) ?_;refine oP 52 103 9 .i64 hF fun t52 hF=>?_;refine oLs 53 9 hF fun t53 hF=>?_;refine oA 14 (ze t53) ?_;refine oV [(0,t0),(4,v23),(5,.int .i64 t5),(6,ze t32),(8,v42),(10,.int .i64 t10_85),(11,.int .i64 t11_86),(12,.bool t12_87),(13,.int .i64 t13),(14,ze t53)] (n95 ?_);refine W.s (fun K99 n99 e99 q99 p99=>?_);refine W.s (fun K100 n100 e100 q100 p100=>?_);refine W.r ?_;refine oA 54 (ze t53) ?_;refine oA 55 (.int .i64 (z7e t53)) ?_;refine oB 56 hF fun t56 hF=>?_;refine oA 57 (.bool t56) ?_;obtain⟨j61,e103,hF⟩:=z7 hF
          have J104:∀(t61:Bool) (h_102:AHeap),j61 t61 h_102=some (rR,hR)→WL Try.prog w0 m0 (Func.ntmps Try.f21) (Code.ops (y6 (y6 (y4 (y6 (y6 (y4 (y6 (y6 (y4 (y6 (y4 (y4 (y4 (y4 (y4 (y4 (y6 (y6 (y4 (y6 (y6 (y4 (y6 (y4 (y4 (y4 (z3d Try.f21)))))))))))))))))))))))))))) 8 K100 [(0,t0),(4,v23),(5,.int .i64 t5),(6,ze t32),(8,v42),(10,.int .i64 t10_85),(11,.int .i64 t11_86),(12,.bool t12_87),(13,.int .i64 t13),(14,ze t53),(61,.bool t61)] [] h_102:=by
           intro t61 h_102 hF;rw[e103] at hF;refine oA 62 (.bool t61) ?_;obtain⟨j66,e106,hF⟩:=z7 hF
           have J107:∀(t66:Bool) (h_105:AHeap),j66 t66 h_105=some (rR,hR)→WL Try.prog w0 m0 (Func.ntmps Try.f21) (Code.ops (y6 (y6 (y4 (y6 (y6 (y4 (y6 (y6 (y4 (y6 (y4 (y4 (y4 (y4 (y4 (y4 (y6 (y6 (y4 (y6 (y6 (y4 (y6 (y4 (y4 (y4 (z3d Try.f21)))))))))))))))))))))))))))) 13 K100 [(0,t0),(4,v23),(5,.int .i64 t5),(6,ze t32),(8,v42),(10,.int .i64 t10_85),(11,.int .i64 t11_86),(12,.bool t12_87),(13,.int .i64 t13),(14,ze t53),(66,.bool t66)] [] h_105:=by
            intro t66 h_105 hF;rw[e106] at hF;refine oA 67 (.bool t66) ?_;obtain⟨j72,e109,hF⟩:=z7 hF
            have J110:∀(t72:Bool) (h_108:AHeap),j72 t72 h_108=some (rR,hR)→WL Try.prog w0 m0 (Func.ntmps Try.f21) (Code.ops (y6 (y6 (y4 (y6 (y6 (y4 (y6 (y6 (y4 (y6 (y4 (y4 (y4 (y4 (y4 (y4 (y6 (y6 (y4 (y6 (y6 (y4 (y6 (y4 (y4 (y4 (z3d Try.f21)))))))))))))))))))))))))))) 19 K100 [(0,t0),(4,v23),(5,.int .i64 t5),(6,ze t32),(8,v42),(10,.int .i64 t10_85),(11,.int .i64 t11_86),(12,.bool t12_87),(13,.int .i64 t13),(14,ze t53),(72,.bool t72)] [] h_108:=by
             intro t72 h_108 hF;rw[e109] at hF;refine oA 73 (.bool t72) ?_;obtain⟨j77,e112,hF⟩:=z7 hF
             have J113:∀(t77:Bool) (h_111:AHeap),j77 t77 h_111=some (rR,hR)→WL Try.prog w0 m0 (Func.ntmps Try.f21) (Code.ops (y6 (y6 (y4 (y6 (y6 (y4 (y6 (y6 (y4 (y6 (y4 (y4 (y4 (y4 (y4 (y4 (y6 (y6 (y4 (y6 (y6 (y4 (y6 (y4 (y4 (y4 (z3d Try.f21)))))))))))))))))))))))))))) 24 K100 [(0,t0),(4,v23),(5,.int .i64 t5),(6,ze t32),(8,v42),(10,.int .i64 t10_85),(11,.int .i64 t11_86),(12,.bool t12_87),(13,.int .i64 t13),(14,ze t53),(77,.bool t77)] [] h_111:=by
              intro t77 h_111 hF;rw[e112] at hF;refine oV [(0,t0),(4,v23),(5,.int .i64 t5),(6,ze t32),(8,v42),(10,.int .i64 t10_85),(11,.int .i64 t11_86),(12,.bool t12_87),(13,.int .i64 t13),(14,ze t53),(77,.bool t77)] (n100 ?_)
              cases t77 with
              |true=>
               refine oT hF fun hF=>?_;refine W.exit (by kernel_rfl) ?_;refine e99 ?_;refine o94 (by kernel_rfl) ?_;refine e93 (e84 ?_);refine s54 (by kernel_rfl) ?_;exact gW _ (J55 _ _ _ _ hF)
              |false=>
               refine oU hF fun hF=>?_;refine oZ (n99 ?_);refine oG fun n114=>W.r ?_;refine oA 78 (.int .i64 t10_85) ?_;refine oI 79 .i64 hF fun t79 hF=>?_;refine oA 10 (.int .i64 t79) ?_;refine oV [(0,t0),(4,v23),(5,.int .i64 t5),(6,ze t32),(8,v42),(10,.int .i64 t79),(11,.int .i64 t11_86),(12,.bool t12_87),(13,.int .i64 t13),(14,ze t53)] (n114 ?_);refine oG fun n116=>W.r ?_;refine oA 80 (.int .i64 t11_86) ?_;refine oI 81 .i64 hF fun t81 hF=>?_;refine oA 11 (.int .i64 t81) ?_;refine oV [(0,t0),(4,v23),(5,.int .i64 t5),(6,ze t32),(8,v42),(10,.int .i64 t79),(11,.int .i64 t81),(12,.bool t12_87),(13,.int .i64 t13),(14,ze t53)] (n116 ?_);refine oG fun n118=>?_;refine y12 (by kernel_rfl) (hc.ok w0) (plan:=[0,2,3,4,5,1,6]) (by kernel_rfl) (by kernel_rfl) (by kernel_rfl) ?_;refine WD.a 0 (some 82) (ze t53) h_111 ?_;refine WD.a 0 (some 84) v23 h_111 ?_;obtain⟨t85,e119,hF⟩:=z4 hF;refine WD.b 0 (some 85) t85 h_111 (z1f (h:=h_111) e119) ?_;obtain⟨t86,e120,hF⟩:=z4 hF;refine WD.b 0 (some 86) t86 h_111 (z10 (P:=Try.prog) (h:=h_111) (s:=66) (f:=2) (by kernel_rfl) e120) ?_
               replace hF:=z4 hF;obtain⟨v87,e121,hF⟩:=hF
               replace hF:=z4 hF;obtain⟨t87,c122,hF⟩:=hF
               have c122:=z15 c122;subst c122;refine WD.b 1 (some 87) (.int .u64 t87) h_111 (z12 (P:=Try.prog) (h:=h_111) (t:=64) (by kernel_rfl) e121) ?_
               replace hF:=z18 hF;obtain⟨r83,h_123,e124,hF⟩:=hF
               replace hF:=z4 hF;obtain⟨t83,c125,hF⟩:=hF
               have c125:=z15 c125;subst c125;obtain⟨k126,hF⟩:=z8a hF;refine WD.call (d:=(some 83)) (by kernel_rfl) (by kernel_rfl) (by kernel_rfl) e124 (k:=2) (by kernel_rfl) (fun _=>(Eq.trans (by kernel_rfl) k126)) (by decide) ?_;obtain⟨t88,e127,hF⟩:=z7 hF;refine WD.val (d:=(some 88)) (v:=.bool t88) (h':=h_123) (by kernel_rfl) (by kernel_rfl) (z2a AV.bool e127 (by kernel_rfl)) (k:=0) (by kernel_rfl) (fun e=>absurd e (by decide)) (by decide) ?_;refine WD.nil ?_;refine gW [(0,t0),(4,v23),(5,.int .i64 t5),(6,ze t32),(8,v42),(10,.int .i64 t79),(11,.int .i64 t81),(12,.bool t12_87),(13,.int .i64 t13),(14,ze t53),(88,.bool t88)] (n118 ?_);obtain⟨k128,e128,hF⟩:=z7 hF
               have J128:∀(t12_129:Bool) (h_130:AHeap),k128 t12_129 h_130=some (rR,hR)→Go w0 m0 (Func.ntmps Try.f21) (K94 .normal) [(0,t0),(4,v23),(5,.int .i64 t5),(6,ze t32),(8,v42),(10,.int .i64 t79),(11,.int .i64 t81),(12,.bool t12_129),(13,.int .i64 t13)] [] h_130:=by
                intro t12_129 h_130 hF;rw[e128] at hF;refine n94 (n93 (W.r ?_));refine oA 48 (.int .i64 t13) ?_;refine oI 49 .i64 hF fun t49 hF=>?_;refine oA 13 (.int .i64 t49) ?_;refine oV [(0,t0),(4,v23),(5,.int .i64 t5),(6,ze t32),(8,v42),(10,.int .i64 t79),(11,.int .i64 t81),(12,.bool t12_129),(13,.int .i64 t49)] (n84 ?_);exact gW _ (ih84 _ _ _ _ _ hF)
               cases t88 with
               |true=>
                refine oT hF fun hF=>?_;refine oG fun n132=>W.r ?_;refine oA 89 v23 ?_;refine oA 90 (ze t53) ?_;refine oCi hc 91 hF fun t91 h_133 hF=>?_;refine oC0 92 hF fun t92 hF=>?_;refine oF 93 66 2 hF fun t93 hF=>?_;refine oW 64 (.int .u64 t91) hF fun h_138 hF=>?_;refine oV [(0,t0),(4,v23),(5,.int .i64 t5),(6,ze t32),(8,v42),(10,.int .i64 t79),(11,.int .i64 t81),(13,.int .i64 t13),(14,ze t53)] (n132 ?_);refine oG fun n140=>?_;refine y12 (by kernel_rfl) (hc.ok w0) (plan:=[0,1,2,5,6,7,8,3,4,9,10,11,12]) (by kernel_rfl) (by kernel_rfl) (by kernel_rfl) ?_;refine WD.a 0 (some 94) v23 h_138 ?_;refine WD.a 0 (some 95) (ze t53) h_138 ?_;obtain⟨t96,e141,hF⟩:=z4 hF;refine WD.b 0 (some 96) (ze t96) h_138 (z61 (P:=Try.prog) (h:=h_138) (t:=9) (A:=(some (.int .i64 8))) (B:=none) (by kernel_rfl) (.inl ⟨_,rfl⟩) (.inr ⟨rfl,rfl⟩) e141) ?_;refine WD.a 0 (some 99) (ze t53) h_138 ?_;obtain⟨t100,e142,hF⟩:=z4 hF;refine WD.b 0 (some 100) (.int .u8 t100) h_138 (z158 (P:=Try.prog) (h:=h_138) (t:=9) (k:=.i64) (by kernel_rfl) e142) ?_;obtain⟨t101,e143,hF⟩:=z7 hF;refine WD.val (d:=(some 101)) (v:=.int .i64 t101) (h':=h_138) (by kernel_rfl) (by kernel_rfl) (z2a (AV.int .i64) e143 (by kernel_rfl)) (k:=0) (by kernel_rfl) (fun e=>absurd e (by decide)) (by decide) ?_;obtain⟨t102,e144,hF⟩:=z7 hF;refine WD.val (d:=(some 102)) (v:=.int .i64 t102) (h':=h_138) (by kernel_rfl) (by kernel_rfl) (z2a (AV.int .i64) e144 (by kernel_rfl)) (k:=0) (by kernel_rfl) (fun e=>absurd e (by decide)) (by decide) ?_
                replace hF:=z18 hF;obtain⟨r97,h_145,e146,hF⟩:=hF
                replace hF:=z4 hF;obtain⟨t97,c147,hF⟩:=hF
                have c147:=z15 c147;subst c147;refine WD.call (d:=(some 97)) (by kernel_rfl) (by kernel_rfl) (by kernel_rfl) e146 (k:=2) (by kernel_rfl) (fun _=>(by kernel_rfl)) (by decide) ?_;obtain⟨t98,e148,hF⟩:=z7 hF;refine WD.val (d:=(some 98)) (v:=.int .i64 t98) (h':=h_145) (by kernel_rfl) (by kernel_rfl) (z2a (AV.int .i64) e148 (by kernel_rfl)) (k:=0) (by kernel_rfl) (fun e=>absurd e (by decide)) (by decide) ?_;refine WD.a 0 (some 103) (.agg ([.int .i64 t98,.int .i64 t102]:List AV)) h_145 ?_;obtain⟨t104,e149,hF⟩:=z4 hF;refine WD.b 0 (some 104) t104 h_145 (z1f (h:=h_145) e149) ?_;obtain⟨t105,e150,hF⟩:=z4 hF;refine WD.b 0 (some 105) t105 h_145 (z10 (P:=Try.prog) (h:=h_145) (s:=66) (f:=1) (by kernel_rfl) e150) ?_;obtain⟨h_151,e152,hF⟩:=z4 hF;refine WD.eff (h':=h_151) (by kernel_rfl) (by kernel_rfl) (Eq.trans (by kernel_rfl) (z2c (P:=Try.prog) (h:=h_145) (t:=39) (v:=(.agg ([.int .i64 t98,.int .i64 t102]:List AV))) (by kernel_rfl) (by kernel_rfl) e152)) (k:=2) (by kernel_rfl) (fun _=>(by kernel_rfl)) (by decide) ?_;refine WD.nil ?_;refine gW [(0,t0),(4,v23),(5,.int .i64 t5),(6,ze t32),(8,v42),(10,.int .i64 t79),(11,.int .i64 t81),(13,.int .i64 t13)] (n140 ?_);refine oG fun n153=>W.r ?_;refine oA 106 v23 ?_;refine oA 107 (.int .i64 t5) ?_;refine oC0 108 hF fun t108 hF=>?_;refine oF 109 66 3 hF fun t109 hF=>?_;refine oW 3 (.int .i64 t5) hF fun h_156 hF=>?_;refine oV [(0,t0),(4,v23),(5,.int .i64 t5),(6,ze t32),(8,v42),(10,.int .i64 t79),(11,.int .i64 t81),(13,.int .i64 t13)] (n153 (W.r ?_));refine oA 12 (.bool true) ?_;refine oV [(0,t0),(4,v23),(5,.int .i64 t5),(6,ze t32),(8,v42),(10,.int .i64 t79),(11,.int .i64 t81),(12,.bool true),(13,.int .i64 t13)] ?_;exact gW _ (J128 _ _ hF)
               |false=>
                refine oU hF fun hF=>?_;refine oZ ?_;exact gW _ (J128 _ _ hF)
             cases t72 with
             |true=>
              replace hF:=z53 hF
              refine WL.o (some 74) ?_;refine WL.o (some 75) ?_;refine WL.o (some 76) ?_;refine oA 77 (.bool true) ?_;exact lW _ (J113 _ _ hF)
             |false=>
              replace hF:=z54 hF
              refine oA 74 (ze t53) ?_;refine oX 75 9 .i64 hF fun t75 hF=>?_;refine oB 76 hF fun t76 hF=>?_;refine oA 77 (.bool t76) ?_;exact lW _ (J113 _ _ hF)
            cases t66 with
            |true=>
             replace hF:=z53 hF
             refine WL.o (some 68) ?_;refine WL.o (some 69) ?_;refine WL.o (some 70) ?_;refine WL.o (some 71) ?_;refine oA 72 (.bool true) ?_;exact lW _ (J110 _ _ hF)
            |false=>
             replace hF:=z54 hF
             refine oA 68 (ze t53) ?_;obtain⟨t69,e160,hF⟩:=z4 hF;refine WL.b (some 69) (ze t69) h_105 (z61 (P:=Try.prog) (h:=h_105) (t:=9) (A:=(some (.int .i64 8))) (B:=none) (by kernel_rfl) (.inl ⟨_,rfl⟩) (.inr ⟨rfl,rfl⟩) e160) ?_;refine oCi hc 70 hF fun t70 h_161 hF=>?_;refine oB 71 hF fun t71 hF=>?_;refine oA 72 (.bool t71) ?_;exact lW _ (J110 _ _ hF)
           cases t61 with
           |true=>
            replace hF:=z53 hF
            refine WL.o (some 63) ?_;refine WL.o (some 64) ?_;refine WL.o (some 65) ?_;refine oA 66 (.bool true) ?_;exact lW _ (J107 _ _ hF)
           |false=>
            replace hF:=z54 hF
            refine oA 63 (ze t53) ?_;refine oCi hc 64 hF fun t64 h_165 hF=>?_;refine oB 65 hF fun t65 hF=>?_;refine oA 66 (.bool t65) ?_;exact lW _ (J107 _ _ hF)
          cases t56 with
          |true=>
           replace hF:=z53 hF
           refine WL.o (some 58) ?_;refine WL.o (some 59) ?_;refine WL.o (some 60) ?_;refine oA 61 (.bool true) ?_;exact lW _ (J104 _ _ hF)
          |false=>
           replace hF:=z54 hF
           refine oA 58 (ze t53) ?_;refine oCi hc 59 hF fun t59 h_169 hF=>?_;refine oB 60 hF fun t60 hF=>?_;refine oA 61 (.bool t60) ?_;exact lW _ (J104 _ _ hF)
         |false=>
          refine oU hF fun hF=>?_;refine W.exit (by kernel_rfl) ?_;refine e89 (e84 ?_);refine s54 (by kernel_rfl) ?_;exact gW _ (J55 _ _ _ _ hF)
       exact gW _ (L84 _ _ _ _ _ _ hF)
    |false=>
     refine oU hF fun hF=>?_;refine W.exit (by kernel_rfl) ?_;refine e22 (e20 ?_);refine s16 (by kernel_rfl) ?_;exact gW _ (J17 _ hF)
  exact gW _ (L20 _ _ _ hF)
noncomputable def z93(call:z11)(_:Nat)(t0:AV)(t1:List AV)(h:AHeap):R:=
 outK (zba h 39 (some (.agg t1))) fun v3 h_2=>
 obind (z34 t0) fun t10=>
 obind (z20 6 t10) fun t11=>
 obind (z9 h_2 t11) fun v12=>
 obind (z17 .i64 v12) fun t12=>
 lett ((t12:Int) != 0) fun (t13:Bool)=>
 ifB t13
 (
  obind (z34 t0) fun t15=>
  obind (z20 6 t15) fun t16=>
  obind (z9 h_2 t16) fun v17=>
  obind (z17 .i64 v17) fun t17=>
  some (.ret (.int .i64 t17),h_2))
 (
  obind (z2b h_2 2 v3) fun t19=>
  callN (call 18 [.agg t19] h_2) fun r20 h_19=>
  obind (z2f r20) fun t20=>
  lett (!t20) fun (t21:Bool)=>
  ifB t21
  (
   some (.ret (.int .i64 2),h_19))
  (
   lett (fun (t22:Bool) (h_26:AHeap)=>
    ifB t22
    (
     some (.ret (.int .i64 5),h_26))
    (
     obind (z2b h_26 2 v3) fun t60=>
     obind (z34 t0) fun t62=>
     obind (z20 1 t62) fun t63=>
     obind (z2b h_26 2 t63) fun t64=>
     obind (zc7 Try.prog 39 (.agg t60) (.agg t64)) fun t65=>
     ifB t65
     (
      some (.ret (.int .i64 0),h_26))
     (
      obind (z34 t0) fun t68=>
      obind (z20 3 t68) fun t69=>
      obind (z9 h_26 t69) fun v70=>
      obind (z17 .u64 v70) fun t70=>
      lett ((t70:Int) == 4611686018427387904) fun (t71:Bool)=>
      ifB t71
      (
       some (.ret (.int .i64 5),h_26))
      (
       obind (z34 t0) fun t73=>
       obind (z20 4 t73) fun t74=>
       obind (z9 h_26 t74) fun v75=>
       obind (z17 .i64 v75) fun t75=>
       obind (z34 t0) fun t77=>
       obind (z20 5 t77) fun t78=>
       obind (z9 h_26 t78) fun v79=>
       obind (z17 .i64 v79) fun t79=>
       lett (decide (t79≥8)) fun (t81:Bool)=>
       lett (fun (t5:Int) (t6:Int) (t7:Int) (h_56:AHeap)=>
        lett ((t7:Int) == 0) fun (t109:Bool)=>
        lett (fun (t7_61:Int) (h_62:AHeap)=>
         lett ((t7_61:Int) == 0) fun (t125:Bool)=>
         lett (fun (t7_67:Int) (h_68:AHeap)=>
          lett ((t7_67:Int) != 0) fun (t133:Bool)=>
          ifB t133
          (
           obind (z34 t0) fun t136=>
           obind (z20 6 t136) fun t137=>
           obind (z27 h_68 1 [.int .i64 t7_67] t137) fun h_75=>
           some (.ret (.int .i64 t7_67),h_75))
          (
           obind (z2b h_68 2 v3) fun t143=>
           obind (z34 t0) fun t145=>
           obind (z20 3 t145) fun t146=>
           obind (z9 h_68 t146) fun v147=>
           obind (z17 .u64 v147) fun t147=>
           lett (IntKind.u64.wrap (t147+1)) fun (t148:Int)=>
           lett (IntKind.i64.wrap (t6+1)) fun (t151:Int)=>
           obind (z34 t0) fun t152=>
           obind (z20 1 t152) fun t153=>
           obind (z27 h_68 2 t143 t153) fun h_88=>
           obind (z34 t0) fun t154=>
           obind (z20 3 t154) fun t155=>
           obind (z27 h_88 1 [.int .u64 t148] t155) fun h_92=>
           obind (z34 t0) fun t156=>
           obind (z20 4 t156) fun t157=>
           obind (z27 h_92 1 [.int .i64 t5] t157) fun h_96=>
           obind (z34 t0) fun t158=>
           obind (z20 5 t158) fun t159=>
           obind (z27 h_96 1 [.int .i64 t151] t159) fun h_100=>
           some (.ret (.int .i64 0),h_100))) fun k66=>
         ifB t125
         (
          obind (z34 t0) fun t127=>
          obind (z20 0 t127) fun t128=>
          obind (z9 h_62 t128) fun v129=>
          callN (call 44 [v129,.int .i64 t5] h_62) fun r131 h_106=>
          obind (z17 .i64 r131) fun t131=>
          k66 t131 h_106)
         (
          k66 t7_61 h_62)) fun k60=>
        ifB t109
        (
         obind (z34 t0) fun t111=>
         obind (z20 0 t111) fun t112=>
         obind (z9 h_56 t112) fun v113=>
         obind (z34 t0) fun t116=>
         obind (z20 3 t116) fun t117=>
         obind (z9 h_56 t117) fun v118=>
         obind (z17 .u64 v118) fun t118=>
         lett (IntKind.u64.wrap (t118+1)) fun (t119:Int)=>
         obind (z2b h_56 2 v3) fun t120=>
         callN (call 49 [.int .u64 t119,.agg t120] h_56) fun r121 h_118=>
         obind (z31 r121) fun t121=>
         chk (true&&(true&&(z6e Try.prog h_118 43 t112 v113&&true)))<|
         callN (call 23 [v113,.int .i64 t5,.agg ([.int .i64 1,ze t121,.int .i64 0]:List AV)] h_118) fun r123 h_122=>
         obind (z17 .i64 r123) fun t123=>
         k60 t123 h_122)
        (
         k60 t7 h_56)) fun k55=>
       ifB t81
       (
        lett (IntKind.i64.wrap (1 - t75)) fun (t83:Int)=>
        obind (z34 t0) fun t85=>
        obind (z20 0 t85) fun t86=>
        obind (z9 h_26 t86) fun v87=>
        callN (call 47 [v87,.int .i64 t83] h_26) fun r89 h_131=>
        obind (z132 r89) fun t89=>
        obind (z451 0 t89) fun v90=>
        obind (z2f v90) fun t90=>
        lett (fun (t100:Bool) (h_136:AHeap)=>
         lett (fun (t7_140:Int) (h_141:AHeap)=>
          k55 t83 0 t7_140 h_141) fun k139=>
         ifB t100
         (
          obind (z34 t0) fun t102=>
          obind (z20 0 t102) fun t103=>
          obind (z9 h_136 t103) fun v104=>
          callN (call 23 [v104,.int .i64 t83,.agg ([.int .i64 3,.str 0 0,.int .i64 0]:List AV)] h_136) fun r107 h_145=>
          obind (z17 .i64 r107) fun t107=>
          k139 t107 h_145)
         (
          k139 0 h_136)) fun j100=>
        ifB t90
        (
         j100 true h_131)
        (
         obind (z34 t0) fun t93=>
         obind (z20 0 t93) fun t94=>
         obind (z9 h_131 t94) fun v95=>
         obind (z34 v95) fun t96=>
         obind (z20 96 t96) fun t97=>
         obind (z9 h_131 t97) fun v98=>
         obind (z17 .i64 v98) fun t98=>
         lett ((t98:Int) == 0) fun (t99:Bool)=>
         j100 t99 h_131))
       (
        k55 t75 t79 0 h_26))))) fun k25=>
   obind (z20 0 v3) fun t23=>
   obind (z9 h_19 t23) fun v24=>
   obind (z17 .i64 v24) fun t24=>
   obind (z34 t0) fun t26=>
   obind (z20 1 t26) fun t27=>
   obind (z20 0 t27) fun t28=>
   obind (z9 h_19 t28) fun v29=>
   obind (z17 .i64 v29) fun t29=>
   lett (decide (t24<t29)) fun (t30:Bool)=>
   ifB t30
   (
    k25 true h_19)
   (
    obind (z20 0 v3) fun t32=>
    obind (z9 h_19 t32) fun v33=>
    obind (z17 .i64 v33) fun t33=>
    obind (z34 t0) fun t35=>
    obind (z20 1 t35) fun t36=>
    obind (z20 0 t36) fun t37=>
    obind (z9 h_19 t37) fun v38=>
    obind (z17 .i64 v38) fun t38=>
    lett ((t33:Int) == t38) fun (t39:Bool)=>
    ifB t39
    (
     obind (z34 t0) fun t42=>
     obind (z20 1 t42) fun t43=>
     obind (z20 1 t43) fun t44=>
     obind (z9 h_19 t44) fun v45=>
     obind (z17 .i64 v45) fun t45=>
     lett ((t45:Int) != (-1)) fun (t46:Bool)=>
     ifB t46
     (
      obind (z34 t0) fun t50=>
      obind (z20 1 t50) fun t51=>
      obind (z20 1 t51) fun t52=>
      obind (z9 h_19 t52) fun v53=>
      obind (z17 .i64 v53) fun t53=>
      obind (z20 1 v3) fun t54=>
      obind (z9 h_19 t54) fun v55=>
      obind (z17 .i64 v55) fun t55=>
      lett ((t53:Int) != t55) fun (t56:Bool)=>
      k25 t56 h_19)
     (
      k25 false h_19))
    (
     k25 false h_19))))
set_option maxHeartbeats 4000000 in
set_option maxRecDepth 20000 in
theorem z211{call:z11}(hc:SaysAll Try.prog call){n:Nat}{t0:AV}{t1:List AV}{h:AHeap}{rR:ARes}{hR:AHeap}(hF:z93 call n t0 t1 h=some (rR,hR)):Says Try.prog 24 [t0,.agg t1] h rR hR:=by
 unfold z93 at hF;refine sO Try.func24 fun w0 m0=>?_;refine wW [(0,t0),(1,.agg t1)] ?_;refine oG fun n1=>W.r ?_;refine oK 3 hF fun v3 h_2 hF=>?_;refine oA 4 (.int .i64 0) ?_;refine oV [(0,t0),(3,v3)] (n1 ?_);refine oH fun n4 q4=>?_;refine W.blockK (by kernel_rfl) (fun K5 n5 s5 o5 q5 p5=>?_);refine oG fun n6=>W.r ?_;refine oA 9 t0 ?_;refine oC0 10 hF fun t10 hF=>?_;refine oF 11 66 5 hF fun t11 hF=>?_;refine oLi 12 3 hF fun t12 hF=>?_;refine oB 13 hF fun t13 hF=>?_;refine oA 8 (.bool t13) ?_;refine oV [(0,t0),(3,v3),(8,.bool t13)] (n6 ?_)
 cases t13 with
 |true=>
  refine oT hF fun hF=>?_;refine oG fun n12=>W.r ?_;refine oA 14 t0 ?_;refine oC0 15 hF fun t15 hF=>?_;refine oF 16 66 5 hF fun t16 hF=>?_;refine oLi 17 3 hF fun t17 hF=>?_;refine oA 4 (.int .i64 t17) ?_;refine oV [(4,.int .i64 t17)] (n12 (oY (q5 (q4 ?_))));exact lZ hF [.tmp 4] [.int .i64 t17] (rT zc)
 |false=>
  refine oU hF fun hF=>?_;refine oG fun n17=>W.r ?_;refine oR 19 39 hF fun t19 hF=>?_;refine oCb hc 20 hF fun t20 h_19 hF=>?_;refine oB 21 hF fun t21 hF=>?_;refine oA 18 (.bool t21) ?_;refine oV [(0,t0),(3,v3),(18,.bool t21)] (n17 ?_)
  cases t21 with
  |true=>
   refine oT hF fun hF=>?_;refine oG fun n23=>W.r ?_;refine oA 4 (.int .i64 2) ?_;refine oV [(4,.int .i64 2)] (n23 (oY (q5 (q4 ?_))));exact lZ hF [.tmp 4] [.int .i64 2] (rT zc)
  |false=>
   refine oU hF fun hF=>?_;refine W.s (fun K24 n24 e24 q24 p24=>?_);obtain⟨k25,e25,hF⟩:=z7 hF
   have J25:∀(t22:Bool) (h_26:AHeap),k25 t22 h_26=some (rR,hR)→Go w0 m0 (Func.ntmps Try.f24) (K24 .normal) [(0,t0),(3,v3),(22,.bool t22)] [] h_26:=by
    intro t22 h_26 hF;rw[e25] at hF;refine n24 ?_
    cases t22 with
    |true=>
     refine oT hF fun hF=>?_;refine oG fun n27=>W.r ?_;refine oA 4 (.int .i64 5) ?_;refine oV [(4,.int .i64 5)] (n27 (oY (q5 (q4 ?_))));exact lZ hF [.tmp 4] [.int .i64 5] (rT zc)
    |false=>
     refine oU hF fun hF=>?_;refine oG fun n28=>?_;refine y12 (by kernel_rfl) (hc.ok w0) (plan:=[0,1,2,3,4,5,6]) (by kernel_rfl) (by kernel_rfl) (by kernel_rfl) ?_;obtain⟨t60,e29,hF⟩:=z4 hF;refine WD.b 1 (some 60) (.agg t60) h_26 (z36 (P:=Try.prog) (h:=h_26) (t:=39) (by kernel_rfl) (by kernel_rfl) e29) ?_;refine WD.a 0 (some 61) t0 h_26 ?_;obtain⟨t62,e30,hF⟩:=z4 hF;refine WD.b 0 (some 62) t62 h_26 (z1f (h:=h_26) e30) ?_;obtain⟨t63,e31,hF⟩:=z4 hF;refine WD.b 0 (some 63) t63 h_26 (z10 (P:=Try.prog) (h:=h_26) (s:=66) (f:=1) (by kernel_rfl) e31) ?_;obtain⟨t64,e32,hF⟩:=z4 hF;refine WD.b 1 (some 64) (.agg t64) h_26 (z36 (P:=Try.prog) (h:=h_26) (t:=39) (by kernel_rfl) (by kernel_rfl) e32) ?_;obtain⟨t65,e33,hF⟩:=z4 hF;refine WD.b 0 (some 65) (.bool t65) h_26 (z35e (P:=Try.prog) (h:=h_26) (t:=39) (lit:=false) (by kernel_rfl) e33) ?_;refine WD.a 0 (some 59) (.bool t65) h_26 ?_;refine WD.nil ?_;refine gW [(0,t0),(3,v3),(59,.bool t65)] (n28 ?_)
     cases t65 with
     |true=>
      refine oT hF fun hF=>?_;refine oG fun n34=>W.r ?_;refine oA 4 (.int .i64 0) ?_;refine oV [(4,.int .i64 0)] (n34 (oY (q5 (q4 ?_))));exact lZ hF [.tmp 4] [.int .i64 0] (rT zc)
     |false=>
      refine oU hF fun hF=>?_;refine oG fun n35=>W.r ?_;refine oA 67 t0 ?_;refine oC0 68 hF fun t68 hF=>?_;refine oF 69 66 2 hF fun t69 hF=>?_;refine oLi 70 64 hF fun t70 hF=>?_;refine oB 71 hF fun t71 hF=>?_;refine oA 66 (.bool t71) ?_;refine oV [(0,t0),(3,v3),(66,.bool t71)] (n35 ?_)
      cases t71 with
      |true=>
       refine oT hF fun hF=>?_;refine oG fun n41=>W.r ?_;refine oA 4 (.int .i64 5) ?_;refine oV [(4,.int .i64 5)] (n41 (oY (q5 (q4 ?_))));exact lZ hF [.tmp 4] [.int .i64 5] (rT zc)
      |false=>
       refine oU hF fun hF=>?_;refine oZ (n5 (n4 ?_));refine oG fun n42=>?_;refine y12 (by kernel_rfl) (hc.ok w0) (plan:=[0,1,2,3,4,5,6,7,8,9]) (by kernel_rfl) (by kernel_rfl) (by kernel_rfl) ?_;refine WD.a 0 (some 72) t0 h_26 ?_;obtain⟨t73,e43,hF⟩:=z4 hF;refine WD.b 0 (some 73) t73 h_26 (z1f (h:=h_26) e43) ?_;obtain⟨t74,e44,hF⟩:=z4 hF;refine WD.b 0 (some 74) t74 h_26 (z10 (P:=Try.prog) (h:=h_26) (s:=66) (f:=3) (by kernel_rfl) e44) ?_
       replace hF:=z4 hF;obtain⟨v75,e45,hF⟩:=hF
       replace hF:=z4 hF;obtain⟨t75,c46,hF⟩:=hF
       have c46:=z15 c46;subst c46;refine WD.b 1 (some 75) (.int .i64 t75) h_26 (z12 (P:=Try.prog) (h:=h_26) (t:=3) (by kernel_rfl) e45) ?_;refine WD.a 0 (some 76) t0 h_26 ?_;obtain⟨t77,e47,hF⟩:=z4 hF;refine WD.b 0 (some 77) t77 h_26 (z1f (h:=h_26) e47) ?_;obtain⟨t78,e48,hF⟩:=z4 hF;refine WD.b 0 (some 78) t78 h_26 (z10 (P:=Try.prog) (h:=h_26) (s:=66) (f:=4) (by kernel_rfl) e48) ?_
       replace hF:=z4 hF;obtain⟨v79,e49,hF⟩:=hF
       replace hF:=z4 hF;obtain⟨t79,c50,hF⟩:=hF
       have c50:=z15 c50;subst c50;refine WD.b 1 (some 79) (.int .i64 t79) h_26 (z12 (P:=Try.prog) (h:=h_26) (t:=3) (by kernel_rfl) e49) ?_;refine WD.a 0 (some 5) (.int .i64 t75) h_26 ?_;refine WD.a 0 (some 6) (.int .i64 t79) h_26 ?_;refine WD.nil ?_;refine gW [(0,t0),(3,v3),(5,.int .i64 t75),(6,.int .i64 t79)] (n42 ?_);refine oG fun n51=>W.r ?_;refine oA 7 (.int .i64 0) ?_;refine oV [(0,t0),(3,v3),(5,.int .i64 t75),(6,.int .i64 t79),(7,.int .i64 0)] (n51 ?_);refine W.s (fun K52 n52 e52 q52 p52=>?_);refine oG fun n53=>W.r ?_;refine oA 80 (.int .i64 t79) ?_;refine oB 81 hF fun t81 hF=>?_;refine oV [(0,t0),(3,v3),(5,.int .i64 t75),(6,.int .i64 t79),(7,.int .i64 0),(81,.bool t81)] (n53 ?_);obtain⟨k55,e55,hF⟩:=z7 hF
       have J55:∀(t5:Int) (t6:Int) (t7:Int) (h_56:AHeap),k55 t5 t6 t7 h_56=some (rR,hR)→Go w0 m0 (Func.ntmps Try.f24) (K52 .normal) [(0,t0),(3,v3),(5,.int .i64 t5),(6,.int .i64 t6),(7,.int .i64 t7)] [] h_56:=by
        intro t5 t6 t7 h_56 hF;rw[e55] at hF;refine n52 ?_;refine W.s (fun K57 n57 e57 q57 p57=>?_);refine oG fun n58=>W.r ?_;refine oA 108 (.int .i64 t7) ?_;refine oB 109 hF fun t109 hF=>?_;refine oV [(0,t0),(3,v3),(5,.int .i64 t5),(6,.int .i64 t6),(7,.int .i64 t7),(109,.bool t109)] (n58 ?_);obtain⟨k60,e60,hF⟩:=z7 hF
        have J60:∀(t7_61:Int) (h_62:AHeap),k60 t7_61 h_62=some (rR,hR)→Go w0 m0 (Func.ntmps Try.f24) (K57 .normal) [(0,t0),(3,v3),(5,.int .i64 t5),(6,.int .i64 t6),(7,.int .i64 t7_61)] [] h_62:=by
         intro t7_61 h_62 hF;rw[e60] at hF;refine n57 ?_;refine W.s (fun K63 n63 e63 q63 p63=>?_);refine oG fun n64=>W.r ?_;refine oA 124 (.int .i64 t7_61) ?_;refine oB 125 hF fun t125 hF=>?_;refine oV [(0,t0),(3,v3),(5,.int .i64 t5),(6,.int .i64 t6),(7,.int .i64 t7_61),(125,.bool t125)] (n64 ?_);obtain⟨k66,e66,hF⟩:=z7 hF
         have J66:∀(t7_67:Int) (h_68:AHeap),k66 t7_67 h_68=some (rR,hR)→Go w0 m0 (Func.ntmps Try.f24) (K63 .normal) [(0,t0),(3,v3),(5,.int .i64 t5),(6,.int .i64 t6),(7,.int .i64 t7_67)] [] h_68:=by
          intro t7_67 h_68 hF;rw[e66] at hF;refine n63 ?_;refine oH fun n69 q69=>?_;refine oG fun n70=>W.r ?_;refine oA 132 (.int .i64 t7_67) ?_;refine oB 133 hF fun t133 hF=>?_;refine oV [(0,t0),(3,v3),(5,.int .i64 t5),(6,.int .i64 t6),(7,.int .i64 t7_67),(133,.bool t133)] (n70 ?_)
          cases t133 with
          |true=>
           refine oT hF fun hF=>?_;refine oG fun n72=>W.r ?_;refine oA 134 t0 ?_;refine oA 135 (.int .i64 t7_67) ?_;refine oC0 136 hF fun t136 hF=>?_;refine oF 137 66 5 hF fun t137 hF=>?_;refine oW 3 (.int .i64 t7_67) hF fun h_75 hF=>?_;refine oV [(7,.int .i64 t7_67)] (n72 ?_);refine oG fun n77=>W.r ?_;refine oA 138 (.int .i64 t7_67) ?_;refine oA 4 (.int .i64 t7_67) ?_;refine oV [(4,.int .i64 t7_67)] (n77 (oY (q69 ?_)));exact lZ hF [.tmp 4] [.int .i64 t7_67] (rT zc)
          |false=>
           refine oU hF fun hF=>?_;refine oZ (n69 ?_);refine oG fun n78=>?_;refine y12 (by kernel_rfl) (hc.ok w0) (plan:=[0,1,2,3,4,5,6,7,8,9,10,11,12,13,14,15,16,17,18,19,20,21,22,23,24]) (by kernel_rfl) (by kernel_rfl) (by kernel_rfl) ?_;refine WD.a 0 (some 139) t0 h_68 ?_;refine WD.a 0 (some 140) t0 h_68 ?_;refine WD.a 0 (some 141) t0 h_68 ?_;refine WD.a 0 (some 142) t0 h_68 ?_;obtain⟨t143,e79,hF⟩:=z4 hF;refine WD.b 1 (some 143) (.agg t143) h_68 (z36 (P:=Try.prog) (h:=h_68) (t:=39) (by kernel_rfl) (by kernel_rfl) e79) ?_;refine WD.a 0 (some 144) t0 h_68 ?_;obtain⟨t145,e80,hF⟩:=z4 hF;refine WD.b 0 (some 145) t145 h_68 (z1f (h:=h_68) e80) ?_;obtain⟨t146,e81,hF⟩:=z4 hF;refine WD.b 0 (some 146) t146 h_68 (z10 (P:=Try.prog) (h:=h_68) (s:=66) (f:=2) (by kernel_rfl) e81) ?_
           replace hF:=z4 hF;obtain⟨v147,e82,hF⟩:=hF
           replace hF:=z4 hF;obtain⟨t147,c83,hF⟩:=hF
           have c83:=z15 c83;subst c83;refine WD.b 1 (some 147) (.int .u64 t147) h_68 (z12 (P:=Try.prog) (h:=h_68) (t:=64) (by kernel_rfl) e82) ?_;obtain⟨t148,e84,hF⟩:=z7 hF;refine WD.val (d:=(some 148)) (v:=.int .u64 t148) (h':=h_68) (by kernel_rfl) (by kernel_rfl) (z2a (AV.int .u64) e84 (by kernel_rfl)) (k:=0) (by kernel_rfl) (fun e=>absurd e (by decide)) (by decide) ?_;refine WD.a 0 (some 149) (.int .i64 t5) h_68 ?_;refine WD.a 0 (some 150) (.int .i64 t6) h_68 ?_;obtain⟨t151,e85,hF⟩:=z7 hF;refine WD.val (d:=(some 151)) (v:=.int .i64 t151) (h':=h_68) (by kernel_rfl) (by kernel_rfl) (z2a (AV.int .i64) e85 (by kernel_rfl)) (k:=0) (by kernel_rfl) (fun e=>absurd e (by decide)) (by decide) ?_;obtain⟨t152,e86,hF⟩:=z4 hF;refine WD.b 0 (some 152) t152 h_68 (z1f (h:=h_68) e86) ?_;obtain⟨t153,e87,hF⟩:=z4 hF;refine WD.b 0 (some 153) t153 h_68 (z10 (P:=Try.prog) (h:=h_68) (s:=66) (f:=1) (by kernel_rfl) e87) ?_;obtain⟨h_88,e89,hF⟩:=z4 hF;refine WD.eff (h':=h_88) (by kernel_rfl) (by kernel_rfl) (Eq.trans (by kernel_rfl) (z2c (P:=Try.prog) (h:=h_68) (t:=39) (v:=(.agg t143)) (by kernel_rfl) (by kernel_rfl) e89)) (k:=2) (by kernel_rfl) (fun _=>(by kernel_rfl)) (by decide) ?_;obtain⟨t154,e90,hF⟩:=z4 hF;refine WD.b 0 (some 154) t154 h_88 (z1f (h:=h_88) e90) ?_;obtain⟨t155,e91,hF⟩:=z4 hF;refine WD.b 0 (some 155) t155 h_88 (z10 (P:=Try.prog) (h:=h_88) (s:=66) (f:=2) (by kernel_rfl) e91) ?_;obtain⟨h_92,e93,hF⟩:=z4 hF;refine WD.eff (h':=h_92) (by kernel_rfl) (by kernel_rfl) (Eq.trans (by kernel_rfl) (z2c (P:=Try.prog) (h:=h_88) (t:=64) (v:=(.int .u64 t148)) (by kernel_rfl) (by kernel_rfl) e93)) (k:=2) (by kernel_rfl) (fun _=>(by kernel_rfl)) (by decide) ?_;obtain⟨t156,e94,hF⟩:=z4 hF;refine WD.b 0 (some 156) t156 h_92 (z1f (h:=h_92) e94) ?_;obtain⟨t157,e95,hF⟩:=z4 hF;refine WD.b 0 (some 157) t157 h_92 (z10 (P:=Try.prog) (h:=h_92) (s:=66) (f:=3) (by kernel_rfl) e95) ?_;obtain⟨h_96,e97,hF⟩:=z4 hF;refine WD.eff (h':=h_96) (by kernel_rfl) (by kernel_rfl) (Eq.trans (by kernel_rfl) (z2c (P:=Try.prog) (h:=h_92) (t:=3) (v:=(.int .i64 t5)) (by kernel_rfl) (by kernel_rfl) e97)) (k:=2) (by kernel_rfl) (fun _=>(by kernel_rfl)) (by decide) ?_;obtain⟨t158,e98,hF⟩:=z4 hF;refine WD.b 0 (some 158) t158 h_96 (z1f (h:=h_96) e98) ?_;obtain⟨t159,e99,hF⟩:=z4 hF;refine WD.b 0 (some 159) t159 h_96 (z10 (P:=Try.prog) (h:=h_96) (s:=66) (f:=4) (by kernel_rfl) e99) ?_;obtain⟨h_100,e101,hF⟩:=z4 hF;refine WD.eff (h':=h_100) (by kernel_rfl) (by kernel_rfl) (Eq.trans (by kernel_rfl) (z2c (P:=Try.prog) (h:=h_96) (t:=3) (v:=(.int .i64 t151)) (by kernel_rfl) (by kernel_rfl) e101)) (k:=2) (by kernel_rfl) (fun _=>(by kernel_rfl)) (by decide) ?_;refine WD.nil ?_;refine gW [] (n78 ?_);refine oG fun n102=>W.r ?_;refine oA 4 (.int .i64 0) ?_;refine oV [(4,.int .i64 0)] (n102 (oY ?_));exact lZ hF [.tmp 4] [.int .i64 0] (rT zc)
         cases t125 with
         |true=>
          refine oT hF fun hF=>?_;refine W.r ?_;refine oA 126 t0 ?_;refine oC0 127 hF fun t127 hF=>?_;refine oF 128 66 0 hF fun t128 hF=>?_;refine oL 129 43 hF fun v129 hF=>?_;refine oA 130 (.int .i64 t5) ?_;refine oCi hc 131 hF fun t131 h_106 hF=>?_;refine oA 7 (.int .i64 t131) ?_;refine oV [(0,t0),(3,v3),(5,.int .i64 t5),(6,.int .i64 t6),(7,.int .i64 t131)] ?_;exact gW _ (J66 _ _ hF)
         |false=>
          refine oU hF fun hF=>?_;refine oZ ?_;exact gW _ (J66 _ _ hF)
        cases t109 with
        |true=>
         refine oT hF fun hF=>?_;refine y12 (by kernel_rfl) (hc.ok w0) (plan:=[0,1,2,3,4,5,6,7,8,9,10,11,12,13,14]) (by kernel_rfl) (by kernel_rfl) (by kernel_rfl) ?_;refine WD.a 0 (some 110) t0 h_56 ?_;obtain⟨t111,e109,hF⟩:=z4 hF;refine WD.b 0 (some 111) t111 h_56 (z1f (h:=h_56) e109) ?_;obtain⟨t112,e110,hF⟩:=z4 hF;refine WD.b 0 (some 112) t112 h_56 (z10 (P:=Try.prog) (h:=h_56) (s:=66) (f:=0) (by kernel_rfl) e110) ?_;obtain⟨v113,e111,hF⟩:=z4 hF;refine WD.b 1 (some 113) v113 h_56 (z12 (P:=Try.prog) (h:=h_56) (t:=43) (by kernel_rfl) e111) ?_;refine WD.a 0 (some 114) (.int .i64 t5) h_56 ?_;refine WD.a 0 (some 115) t0 h_56 ?_;obtain⟨t116,e112,hF⟩:=z4 hF;refine WD.b 0 (some 116) t116 h_56 (z1f (h:=h_56) e112) ?_;obtain⟨t117,e113,hF⟩:=z4 hF;refine WD.b 0 (some 117) t117 h_56 (z10 (P:=Try.prog) (h:=h_56) (s:=66) (f:=2) (by kernel_rfl) e113) ?_
         replace hF:=z4 hF;obtain⟨v118,e114,hF⟩:=hF
         replace hF:=z4 hF;obtain⟨t118,c115,hF⟩:=hF
         have c115:=z15 c115;subst c115;refine WD.b 1 (some 118) (.int .u64 t118) h_56 (z12 (P:=Try.prog) (h:=h_56) (t:=64) (by kernel_rfl) e114) ?_;obtain⟨t119,e116,hF⟩:=z7 hF;refine WD.val (d:=(some 119)) (v:=.int .u64 t119) (h':=h_56) (by kernel_rfl) (by kernel_rfl) (z2a (AV.int .u64) e116 (by kernel_rfl)) (k:=0) (by kernel_rfl) (fun e=>absurd e (by decide)) (by decide) ?_;obtain⟨t120,e117,hF⟩:=z4 hF;refine WD.b 1 (some 120) (.agg t120) h_56 (z36 (P:=Try.prog) (h:=h_56) (t:=39) (by kernel_rfl) (by kernel_rfl) e117) ?_
         replace hF:=z18 hF;obtain⟨r121,h_118,e119,hF⟩:=hF
         replace hF:=z4 hF;obtain⟨t121,c120,hF⟩:=hF
         have c120:=z22 c120;subst c120;obtain⟨k121,hF⟩:=z8a hF;refine WD.call (d:=(some 121)) (by kernel_rfl) (by kernel_rfl) (by kernel_rfl) e119 (k:=2) (by kernel_rfl) (fun _=>(Eq.trans (by kernel_rfl) k121)) (by decide) ?_;refine WD.a 0 (some 122) (.agg ([.int .i64 1,ze t121,.int .i64 0]:List AV)) h_118 ?_
         replace hF:=z18 hF;obtain⟨r123,h_122,e123,hF⟩:=hF
         replace hF:=z4 hF;obtain⟨t123,c124,hF⟩:=hF
         have c124:=z15 c124;subst c124;refine WD.call (d:=(some 123)) (by kernel_rfl) (by kernel_rfl) (by kernel_rfl) e123 (k:=2) (by kernel_rfl) (fun _=>(by kernel_rfl)) (by decide) ?_;refine WD.a 0 (some 7) (.int .i64 t123) h_122 ?_;refine WD.nil ?_;refine gW [(0,t0),(3,v3),(5,.int .i64 t5),(6,.int .i64 t6),(7,.int .i64 t123)] ?_;exact gW _ (J60 _ _ hF)
        |false=>
         refine oU hF fun hF=>?_;refine oZ ?_;exact gW _ (J60 _ _ hF)
       cases t81 with
       |true=>
        refine oT hF fun hF=>?_;refine oG fun n125=>W.r ?_;refine oA 82 (.int .i64 t75) ?_;refine oI 83 .i64 hF fun t83 hF=>?_;refine oA 5 (.int .i64 t83) ?_;refine oA 6 (.int .i64 0) ?_;refine oV [(0,t0),(3,v3),(5,.int .i64 t83),(6,.int .i64 0),(7,.int .i64 0)] (n125 ?_);refine W.s (fun K127 n127 e127 q127 p127=>?_);refine W.r ?_;refine oA 84 t0 ?_;refine oC0 85 hF fun t85 hF=>?_;refine oF 86 66 0 hF fun t86 hF=>?_;refine oL 87 43 hF fun v87 hF=>?_;refine oA 88 (.int .i64 t83) ?_;refine oCa hc 89 hF fun t89 h_131 hF=>?_
        replace hF:=z4 hF;obtain⟨v90,e134,hF⟩:=hF
        replace hF:=z4 hF;obtain⟨t90,c135,hF⟩:=hF
        have c135:=z1e c135;subst c135;refine WL.b (some 90) (.bool t90) h_131 (z3b5 (P:=Try.prog) (h:=h_131) (t:=56) (f:=0) (by kernel_rfl) e134) ?_;refine oA 91 (.bool t90) ?_;obtain⟨j100,e137,hF⟩:=z7 hF
        have J138:∀(t100:Bool) (h_136:AHeap),j100 t100 h_136=some (rR,hR)→WL Try.prog w0 m0 (Func.ntmps Try.f24) (Code.ops (y6 (y4 (y6 (y4 (y6 (y4 (y4 (y4 (y4 (z3d Try.f24))))))))))) 17 K127 [(0,t0),(3,v3),(5,.int .i64 t83),(6,.int .i64 0),(7,.int .i64 0),(100,.bool t100)] [] h_136:=by
         intro t100 h_136 hF;rw[e137] at hF;refine oV [(0,t0),(3,v3),(5,.int .i64 t83),(6,.int .i64 0),(7,.int .i64 0),(100,.bool t100)] (n127 ?_);obtain⟨k139,e139,hF⟩:=z7 hF
         have J139:∀(t7_140:Int) (h_141:AHeap),k139 t7_140 h_141=some (rR,hR)→Go w0 m0 (Func.ntmps Try.f24) (K52 .normal) [(0,t0),(3,v3),(5,.int .i64 t83),(6,.int .i64 0),(7,.int .i64 t7_140)] [] h_141:=by
          intro t7_140 h_141 hF;rw[e139] at hF;exact gW _ (J55 _ _ _ _ hF)
         cases t100 with
         |true=>
          refine oT hF fun hF=>?_;refine W.r ?_;refine oA 101 t0 ?_;refine oC0 102 hF fun t102 hF=>?_;refine oF 103 66 0 hF fun t103 hF=>?_;refine oL 104 43 hF fun v104 hF=>?_;refine oA 105 (.int .i64 t83) ?_;refine oA 106 (.agg ([.int .i64 3,.str 0 0,.int .i64 0]:List AV)) ?_;refine oCi hc 107 hF fun t107 h_145 hF=>?_;refine oA 7 (.int .i64 t107) ?_;refine oV [(0,t0),(3,v3),(5,.int .i64 t83),(6,.int .i64 0),(7,.int .i64 t107)] ?_;exact gW _ (J139 _ _ hF)
         |false=>
          refine oU hF fun hF=>?_;refine oZ ?_;exact gW _ (J139 _ _ hF)
        cases t90 with
        |true=>
         replace hF:=z53 hF
         refine WL.o (some 92) ?_;refine WL.o (some 93) ?_;refine WL.o (some 94) ?_;refine WL.o (some 95) ?_;refine WL.o (some 96) ?_;refine WL.o (some 97) ?_;refine WL.o (some 98) ?_;refine WL.o (some 99) ?_;refine oA 100 (.bool true) ?_;exact lW _ (J138 _ _ hF)
        |false=>
         replace hF:=z54 hF
         refine oA 92 t0 ?_;refine oC0 93 hF fun t93 hF=>?_;refine oF 94 66 0 hF fun t94 hF=>?_;refine oL 95 43 hF fun v95 hF=>?_;refine oC0 96 hF fun t96 hF=>?_;refine oF 97 62 1 hF fun t97 hF=>?_;refine oLi 98 3 hF fun t98 hF=>?_;refine oB 99 hF fun t99 hF=>?_;refine oA 100 (.bool t99) ?_;exact lW _ (J138 _ _ hF)
       |false=>
        refine oU hF fun hF=>?_;refine oZ ?_;exact gW _ (J55 _ _ _ _ hF)
   refine y12 (by kernel_rfl) (hc.ok w0) (plan:=[0,1,2,3,4,5,6,7,8,9,10,11,12,13,14,15,16,17,18,19,20,21,22,23,24,25,26,27,28,29,30,31,32,33,34,35,36]) (by kernel_rfl) (by kernel_rfl) (by kernel_rfl) ?_;obtain⟨t23,e156,hF⟩:=z4 hF;refine WD.b 0 (some 23) t23 h_19 (z10 (P:=Try.prog) (h:=h_19) (s:=39) (f:=0) (by kernel_rfl) e156) ?_
   replace hF:=z4 hF;obtain⟨v24,e157,hF⟩:=hF
   replace hF:=z4 hF;obtain⟨t24,c158,hF⟩:=hF
   have c158:=z15 c158;subst c158;refine WD.b 1 (some 24) (.int .i64 t24) h_19 (z12 (P:=Try.prog) (h:=h_19) (t:=3) (by kernel_rfl) e157) ?_;refine WD.a 0 (some 25) t0 h_19 ?_;obtain⟨t26,e159,hF⟩:=z4 hF;refine WD.b 0 (some 26) t26 h_19 (z1f (h:=h_19) e159) ?_;obtain⟨t27,e160,hF⟩:=z4 hF;refine WD.b 0 (some 27) t27 h_19 (z10 (P:=Try.prog) (h:=h_19) (s:=66) (f:=1) (by kernel_rfl) e160) ?_;obtain⟨t28,e161,hF⟩:=z4 hF;refine WD.b 0 (some 28) t28 h_19 (z10 (P:=Try.prog) (h:=h_19) (s:=39) (f:=0) (by kernel_rfl) e161) ?_
   replace hF:=z4 hF;obtain⟨v29,e162,hF⟩:=hF
   replace hF:=z4 hF;obtain⟨t29,c163,hF⟩:=hF
   have c163:=z15 c163;subst c163;refine WD.b 1 (some 29) (.int .i64 t29) h_19 (z12 (P:=Try.prog) (h:=h_19) (t:=3) (by kernel_rfl) e162) ?_;obtain⟨t30,e164,hF⟩:=z7 hF;refine WD.val (d:=(some 30)) (v:=.bool t30) (h':=h_19) (by kernel_rfl) (by kernel_rfl) (z2a AV.bool e164 (by kernel_rfl)) (k:=0) (by kernel_rfl) (fun e=>absurd e (by decide)) (by decide) ?_;refine WD.a 0 (some 31) (.bool t30) h_19 ?_
   cases t30 with
   |true=>
    replace hF:=z53 hF
    refine oD 0 (some 32) ?_;refine oD 1 (some 33) ?_;refine oD 0 (some 34) ?_;refine oD 0 (some 35) ?_;refine oD 0 (some 36) ?_;refine oD 0 (some 37) ?_;refine oD 1 (some 38) ?_;refine oD 0 (some 39) ?_;refine oD 0 (some 40) ?_;refine oD 0 (some 41) ?_;refine oD 0 (some 42) ?_;refine oD 0 (some 43) ?_;refine oD 0 (some 44) ?_;refine oD 1 (some 45) ?_;refine oD 0 (some 46) ?_;refine oD 0 (some 47) ?_;refine oD 0 (some 48) ?_;refine oD 0 (some 49) ?_;refine oD 0 (some 50) ?_;refine oD 0 (some 51) ?_;refine oD 0 (some 52) ?_;refine oD 1 (some 53) ?_;refine oD 0 (some 54) ?_;refine oD 1 (some 55) ?_;refine oD 0 (some 56) ?_;refine oD 0 (some 57) ?_;refine WD.a 0 (some 58) (.bool true) h_19 ?_;refine WD.a 0 (some 22) (.bool true) h_19 ?_;refine WD.nil ?_;exact gW _ (J25 _ _ hF)
   |false=>
    replace hF:=z54 hF
    obtain⟨t32,e165,hF⟩:=z4 hF;refine WD.b 0 (some 32) t32 h_19 (z10 (P:=Try.prog) (h:=h_19) (s:=39) (f:=0) (by kernel_rfl) e165) ?_
    replace hF:=z4 hF;obtain⟨v33,e166,hF⟩:=hF
    replace hF:=z4 hF;obtain⟨t33,c167,hF⟩:=hF
    have c167:=z15 c167;subst c167;refine WD.b 1 (some 33) (.int .i64 t33) h_19 (z12 (P:=Try.prog) (h:=h_19) (t:=3) (by kernel_rfl) e166) ?_;refine WD.a 0 (some 34) t0 h_19 ?_;obtain⟨t35,e168,hF⟩:=z4 hF;refine WD.b 0 (some 35) t35 h_19 (z1f (h:=h_19) e168) ?_;obtain⟨t36,e169,hF⟩:=z4 hF;refine WD.b 0 (some 36) t36 h_19 (z10 (P:=Try.prog) (h:=h_19) (s:=66) (f:=1) (by kernel_rfl) e169) ?_;obtain⟨t37,e170,hF⟩:=z4 hF;refine WD.b 0 (some 37) t37 h_19 (z10 (P:=Try.prog) (h:=h_19) (s:=39) (f:=0) (by kernel_rfl) e170) ?_
    replace hF:=z4 hF;obtain⟨v38,e171,hF⟩:=hF
    replace hF:=z4 hF;obtain⟨t38,c172,hF⟩:=hF
    have c172:=z15 c172;subst c172;refine WD.b 1 (some 38) (.int .i64 t38) h_19 (z12 (P:=Try.prog) (h:=h_19) (t:=3) (by kernel_rfl) e171) ?_;obtain⟨t39,e173,hF⟩:=z7 hF;refine WD.val (d:=(some 39)) (v:=.bool t39) (h':=h_19) (by kernel_rfl) (by kernel_rfl) (z2a AV.bool e173 (by kernel_rfl)) (k:=0) (by kernel_rfl) (fun e=>absurd e (by decide)) (by decide) ?_;refine WD.a 0 (some 40) (.bool t39) h_19 ?_
    cases t39 with
    |true=>
     replace hF:=z53 hF
     refine WD.a 0 (some 41) t0 h_19 ?_;obtain⟨t42,e174,hF⟩:=z4 hF;refine WD.b 0 (some 42) t42 h_19 (z1f (h:=h_19) e174) ?_;obtain⟨t43,e175,hF⟩:=z4 hF;refine WD.b 0 (some 43) t43 h_19 (z10 (P:=Try.prog) (h:=h_19) (s:=66) (f:=1) (by kernel_rfl) e175) ?_;obtain⟨t44,e176,hF⟩:=z4 hF;refine WD.b 0 (some 44) t44 h_19 (z10 (P:=Try.prog) (h:=h_19) (s:=39) (f:=1) (by kernel_rfl) e176) ?_
     replace hF:=z4 hF;obtain⟨v45,e177,hF⟩:=hF
     replace hF:=z4 hF;obtain⟨t45,c178,hF⟩:=hF
     have c178:=z15 c178;subst c178;refine WD.b 1 (some 45) (.int .i64 t45) h_19 (z12 (P:=Try.prog) (h:=h_19) (t:=3) (by kernel_rfl) e177) ?_;obtain⟨t46,e179,hF⟩:=z7 hF;refine WD.val (d:=(some 46)) (v:=.bool t46) (h':=h_19) (by kernel_rfl) (by kernel_rfl) (z2a AV.bool e179 (by kernel_rfl)) (k:=0) (by kernel_rfl) (fun e=>absurd e (by decide)) (by decide) ?_;refine WD.a 0 (some 47) (.bool t46) h_19 ?_;refine WD.a 0 (some 48) (.bool t46) h_19 ?_
     cases t46 with
     |true=>
      replace hF:=z53 hF
      refine WD.a 0 (some 49) t0 h_19 ?_;obtain⟨t50,e180,hF⟩:=z4 hF;refine WD.b 0 (some 50) t50 h_19 (z1f (h:=h_19) e180) ?_;obtain⟨t51,e181,hF⟩:=z4 hF;refine WD.b 0 (some 51) t51 h_19 (z10 (P:=Try.prog) (h:=h_19) (s:=66) (f:=1) (by kernel_rfl) e181) ?_;obtain⟨t52,e182,hF⟩:=z4 hF;refine WD.b 0 (some 52) t52 h_19 (z10 (P:=Try.prog) (h:=h_19) (s:=39) (f:=1) (by kernel_rfl) e182) ?_
      replace hF:=z4 hF;obtain⟨v53,e183,hF⟩:=hF
      replace hF:=z4 hF;obtain⟨t53,c184,hF⟩:=hF
      have c184:=z15 c184;subst c184;refine WD.b 1 (some 53) (.int .i64 t53) h_19 (z12 (P:=Try.prog) (h:=h_19) (t:=3) (by kernel_rfl) e183) ?_;obtain⟨t54,e185,hF⟩:=z4 hF;refine WD.b 0 (some 54) t54 h_19 (z10 (P:=Try.prog) (h:=h_19) (s:=39) (f:=1) (by kernel_rfl) e185) ?_
      replace hF:=z4 hF;obtain⟨v55,e186,hF⟩:=hF
      replace hF:=z4 hF;obtain⟨t55,c187,hF⟩:=hF
      have c187:=z15 c187;subst c187;refine WD.b 1 (some 55) (.int .i64 t55) h_19 (z12 (P:=Try.prog) (h:=h_19) (t:=3) (by kernel_rfl) e186) ?_;obtain⟨t56,e188,hF⟩:=z7 hF;refine WD.val (d:=(some 56)) (v:=.bool t56) (h':=h_19) (by kernel_rfl) (by kernel_rfl) (z2a AV.bool e188 (by kernel_rfl)) (k:=0) (by kernel_rfl) (fun e=>absurd e (by decide)) (by decide) ?_;refine WD.a 0 (some 57) (.bool t56) h_19 ?_;refine WD.a 0 (some 58) (.bool t56) h_19 ?_;refine WD.a 0 (some 22) (.bool t56) h_19 ?_;refine WD.nil ?_;exact gW _ (J25 _ _ hF)
     |false=>
      replace hF:=z54 hF
      refine oD 0 (some 49) ?_;refine oD 0 (some 50) ?_;refine oD 0 (some 51) ?_;refine oD 0 (some 52) ?_;refine oD 1 (some 53) ?_;refine oD 0 (some 54) ?_;refine oD 1 (some 55) ?_;refine oD 0 (some 56) ?_;refine WD.a 0 (some 57) (.bool false) h_19 ?_;refine WD.a 0 (some 58) (.bool false) h_19 ?_;refine WD.a 0 (some 22) (.bool false) h_19 ?_;refine WD.nil ?_;exact gW _ (J25 _ _ hF)
    |false=>
     replace hF:=z54 hF
     refine oD 0 (some 41) ?_;refine oD 0 (some 42) ?_;refine oD 0 (some 43) ?_;refine oD 0 (some 44) ?_;refine oD 1 (some 45) ?_;refine oD 0 (some 46) ?_;refine WD.a 0 (some 47) (.bool false) h_19 ?_;refine WD.a 0 (some 48) (.bool false) h_19 ?_;refine oD 0 (some 49) ?_;refine oD 0 (some 50) ?_;refine oD 0 (some 51) ?_;refine oD 0 (some 52) ?_;refine oD 1 (some 53) ?_;refine oD 0 (some 54) ?_;refine oD 1 (some 55) ?_;refine oD 0 (some 56) ?_;refine WD.a 0 (some 57) (.bool false) h_19 ?_;refine WD.a 0 (some 58) (.bool false) h_19 ?_;refine WD.a 0 (some 22) (.bool false) h_19 ?_;refine WD.nil ?_;exact gW _ (J25 _ _ hF)
noncomputable def za8(t0:zf)(k6:Int→AHeap→R)(self:Int→Int→AHeap→R)(t3_10:Int)(t4:Int)(h_11:AHeap):R:=lett (decide (t4<8)) fun (t6:Bool)=>ifB t6 (lett (IntKind.u64.wrap (t3_10*256)) fun (t10:Int)=>obind (z352 t0 t4) fun t13=>lett (IntKind.u64.wrap t13) fun (t14:Int)=>lett (IntKind.u64.wrap (t10+t14)) fun (t15:Int)=>lett (IntKind.i64.wrap (t4+1)) fun (t8:Int)=>self t15 t8 h_11) (k6 t3_10 h_11)
noncomputable def zc1(t0:zf)(k6:Int→AHeap→R):Nat→Int→Int→AHeap→R:=z130 (fun _ _ _=>none) (za8 t0 k6)
theorem z111(t0:zf)(k6:Int→AHeap→R)(m:Nat):zc1 t0 k6 (m+1)=za8 t0 k6 (zc1 t0 k6 m):=rfl
noncomputable def zf0(_:z11)(n:Nat)(t0:zf)(h:AHeap):R:=lett (fun (t3:Int) (h_7:AHeap)=>some (.ret (.int .u64 t3),h_7)) fun k6=>zc1 t0 k6 n 0 0 h
set_option maxHeartbeats 4000000 in
set_option maxRecDepth 20000 in
theorem z2b3{call:z11}(_:SaysAll Try.prog call){n:Nat}{t0:zf}{h:AHeap}{rR:ARes}{hR:AHeap}(hF:zf0 call n t0 h=some (rR,hR)):Says Try.prog 43 [ze t0] h rR hR:=by
 unfold zf0 at hF;refine sO Try.func43 fun w0 m0=>?_;refine wW [(0,ze t0)] ?_;refine oG fun n1=>W.r ?_;refine oA 2 (.int .u64 0) ?_;refine oV [(0,ze t0)] (n1 ?_);refine oG fun n2=>W.r ?_;refine oA 3 (.int .u64 0) ?_;refine oV [(0,ze t0),(3,.int .u64 0)] (n2 ?_);refine W.s (fun K3 n3 e3 q3 p3=>?_);refine oG fun n4=>W.r ?_;refine oA 4 (.int .i64 0) ?_;refine oV [(0,ze t0),(3,.int .u64 0),(4,.int .i64 0)] (n4 ?_);obtain⟨k6,e6,hF⟩:=z7 hF
 have J6:∀(t3:Int) (h_7:AHeap),k6 t3 h_7=some (rR,hR)→Go w0 m0 (Func.ntmps Try.f43) (K3 .normal) [(3,.int .u64 t3)] [] h_7:=by
  intro t3 h_7 hF;rw[e6] at hF;refine n3 ?_;refine oG fun n8=>W.r ?_;refine oA 16 (.int .u64 t3) ?_;refine oA 2 (.int .u64 t3) ?_;refine oV [(2,.int .u64 t3)] (n8 (oY ?_));exact lZ hF [.tmp 2] [.int .u64 t3] (rT zc)
 refine W.blockK (by kernel_rfl) (fun K5 n5 s5 o5 q5 p5=>?_);refine W.loopK (by kernel_rfl) (fun I9 K9 b9 n9 e9 q9 p9=>?_)
 have L9:∀(m:Nat) (t3_10:Int) (t4:Int) (h_11:AHeap),zc1 t0 k6 m t3_10 t4 h_11=some (rR,hR)→Go w0 m0 (Func.ntmps Try.f43) I9 [(0,ze t0),(3,.int .u64 t3_10),(4,.int .i64 t4)] [] h_11:=by
  intro m
  induction m with
  |zero=>intro t3_10 t4 h_11 hF;cases hF
  |succ m ih9=>
   intro t3_10 t4 h_11 hF;rw[z111] at hF;unfold za8 at hF;refine b9 ?_;refine W.s (fun K12 n12 e12 q12 p12=>?_);refine oG fun n13=>W.r ?_;refine oA 5 (.int .i64 t4) ?_;refine oB 6 hF fun t6 hF=>?_;refine oV [(0,ze t0),(3,.int .u64 t3_10),(4,.int .i64 t4),(6,.bool t6)] (n13 ?_)
   cases t6 with
   |true=>
    refine oT hF fun hF=>?_;refine oZ (n12 ?_);refine oG fun n15=>?_;refine W.blockK (by kernel_rfl) (fun K16 n16 s16 o16 q16 p16=>?_);refine W.r ?_;refine oA 9 (.int .u64 t3_10) ?_;refine oI 10 .u64 hF fun t10 hF=>?_;refine oA 11 (ze t0) ?_;refine oA 12 (.int .i64 t4) ?_;refine oX 13 9 .i64 hF fun t13 hF=>?_;refine oI 14 .u64 hF fun t14 hF=>?_;refine oI 15 .u64 hF fun t15 hF=>?_;refine oA 3 (.int .u64 t15) ?_;refine oV [(0,ze t0),(3,.int .u64 t15),(4,.int .i64 t4)] (n16 (n15 (W.r ?_)));refine oA 7 (.int .i64 t4) ?_;refine oI 8 .i64 hF fun t8 hF=>?_;refine oA 4 (.int .i64 t8) ?_;refine oV [(0,ze t0),(3,.int .u64 t15),(4,.int .i64 t8)] (n9 ?_);exact gW _ (ih9 _ _ _ hF)
   |false=>
    refine oU hF fun hF=>?_;refine W.exit (by kernel_rfl) ?_;refine e12 (e9 ?_);refine s5 (by kernel_rfl) ?_;exact gW _ (J6 _ _ hF)
 exact gW _ (L9 _ _ _ _ hF)
noncomputable def z112(call:z11)(_:Nat)(t0:Int)(t1:List AV)(h:AHeap):R:=
 outK (zba h 39 (some (.agg t1))) fun v3 h_2=>
 obind (z20 0 v3) fun t7=>
 obind (z9 h_2 t7) fun v8=>
 obind (z17 .i64 v8) fun t8=>
 lett (IntKind.u64.wrap t8) fun (t9:Int)=>
 obind (z20 1 v3) fun t12=>
 obind (z9 h_2 t12) fun v13=>
 obind (z17 .i64 v13) fun t13=>
 lett (IntKind.i64.wrap (t13+1)) fun (t14:Int)=>
 lett (IntKind.u64.wrap t14) fun (t15:Int)=>
 callN (call 67 [.int .u64 t0,.int .i64 8] h_2) fun r6 h_14=>
 obind (z31 r6) fun t6=>
 chk (z6e Try.prog h_14 3 t12 (.int .i64 t13)&&(z6e Try.prog h_14 3 t7 (.int .i64 t8)&&true))<|
 callN (call 67 [.int .u64 t9,.int .i64 8] h_14) fun r10 h_18=>
 obind (z31 r10) fun t10=>
 chk (z6e Try.prog h_18 3 t12 (.int .i64 t13)&&(true&&true))<|
 obind (z43f t6 t10) fun t11=>
 callN (call 67 [.int .u64 t15,.int .i64 1] h_18) fun r16 h_23=>
 obind (z31 r16) fun t16=>
 obind (z43f t11 t16) fun t17=>
 callN (call 66 [ze t17] h_23) fun r18 h_27=>
 obind (z31 r18) fun t18=>
 some (.ret (ze t18),h_27)
set_option maxHeartbeats 4000000 in
set_option maxRecDepth 20000 in
theorem z2f3{call:z11}(hc:SaysAll Try.prog call){n:Nat}{t0:Int}{t1:List AV}{h:AHeap}{rR:ARes}{hR:AHeap}(hF:z112 call n t0 t1 h=some (rR,hR)):Says Try.prog 49 [.int .u64 t0,.agg t1] h rR hR:=by
 unfold z112 at hF;refine sO Try.func49 fun w0 m0=>?_;refine wW [(0,.int .u64 t0),(1,.agg t1)] ?_;refine oG fun n1=>W.r ?_;refine oK 3 hF fun v3 h_2 hF=>?_;refine oA 4 (ze ([]:zf)) ?_;refine oV [(0,.int .u64 t0),(3,v3)] (n1 ?_);refine oG fun n4=>?_;refine y12 (by kernel_rfl) (hc.ok w0) (plan:=[0,2,3,4,7,8,9,10,1,5,6,11,12,13,14]) (by kernel_rfl) (by kernel_rfl) (by kernel_rfl) ?_;refine WD.a 0 (some 5) (.int .u64 t0) h_2 ?_;obtain⟨t7,e5,hF⟩:=z4 hF;refine WD.b 0 (some 7) t7 h_2 (z10 (P:=Try.prog) (h:=h_2) (s:=39) (f:=0) (by kernel_rfl) e5) ?_
 replace hF:=z4 hF;obtain⟨v8,e6,hF⟩:=hF
 replace hF:=z4 hF;obtain⟨t8,c7,hF⟩:=hF
 have c7:=z15 c7;subst c7;refine WD.b 1 (some 8) (.int .i64 t8) h_2 (z12 (P:=Try.prog) (h:=h_2) (t:=3) (by kernel_rfl) e6) ?_;obtain⟨t9,e8,hF⟩:=z7 hF;refine WD.val (d:=(some 9)) (v:=.int .u64 t9) (h':=h_2) (by kernel_rfl) (by kernel_rfl) (z2a (AV.int .u64) e8 (by kernel_rfl)) (k:=0) (by kernel_rfl) (fun e=>absurd e (by decide)) (by decide) ?_;obtain⟨t12,e9,hF⟩:=z4 hF;refine WD.b 0 (some 12) t12 h_2 (z10 (P:=Try.prog) (h:=h_2) (s:=39) (f:=1) (by kernel_rfl) e9) ?_
 replace hF:=z4 hF;obtain⟨v13,e10,hF⟩:=hF
 replace hF:=z4 hF;obtain⟨t13,c11,hF⟩:=hF
 have c11:=z15 c11;subst c11;refine WD.b 1 (some 13) (.int .i64 t13) h_2 (z12 (P:=Try.prog) (h:=h_2) (t:=3) (by kernel_rfl) e10) ?_;obtain⟨t14,e12,hF⟩:=z7 hF;refine WD.val (d:=(some 14)) (v:=.int .i64 t14) (h':=h_2) (by kernel_rfl) (by kernel_rfl) (z2a (AV.int .i64) e12 (by kernel_rfl)) (k:=0) (by kernel_rfl) (fun e=>absurd e (by decide)) (by decide) ?_;obtain⟨t15,e13,hF⟩:=z7 hF;refine WD.val (d:=(some 15)) (v:=.int .u64 t15) (h':=h_2) (by kernel_rfl) (by kernel_rfl) (z2a (AV.int .u64) e13 (by kernel_rfl)) (k:=0) (by kernel_rfl) (fun e=>absurd e (by decide)) (by decide) ?_
 replace hF:=z18 hF;obtain⟨r6,h_14,e15,hF⟩:=hF
 replace hF:=z4 hF;obtain⟨t6,c16,hF⟩:=hF
 have c16:=z22 c16;subst c16;obtain⟨k17,hF⟩:=z8a hF;refine WD.call (d:=(some 6)) (by kernel_rfl) (by kernel_rfl) (by kernel_rfl) e15 (k:=2) (by kernel_rfl) (fun _=>(Eq.trans (by kernel_rfl) k17)) (by decide) ?_
 replace hF:=z18 hF;obtain⟨r10,h_18,e19,hF⟩:=hF
 replace hF:=z4 hF;obtain⟨t10,c20,hF⟩:=hF
 have c20:=z22 c20;subst c20;obtain⟨k21,hF⟩:=z8a hF;refine WD.call (d:=(some 10)) (by kernel_rfl) (by kernel_rfl) (by kernel_rfl) e19 (k:=2) (by kernel_rfl) (fun _=>(Eq.trans (by kernel_rfl) k21)) (by decide) ?_;obtain⟨t11,e22,hF⟩:=z4 hF;refine WD.b 0 (some 11) (ze t11) h_18 (z16b (P:=Try.prog) (h:=h_18) (t:=9) (lit:=false) e22) ?_
 replace hF:=z18 hF;obtain⟨r16,h_23,e24,hF⟩:=hF
 replace hF:=z4 hF;obtain⟨t16,c25,hF⟩:=hF
 have c25:=z22 c25;subst c25;refine WD.call (d:=(some 16)) (by kernel_rfl) (by kernel_rfl) (by kernel_rfl) e24 (k:=2) (by kernel_rfl) (fun _=>(by kernel_rfl)) (by decide) ?_;obtain⟨t17,e26,hF⟩:=z4 hF;refine WD.b 0 (some 17) (ze t17) h_23 (z16b (P:=Try.prog) (h:=h_23) (t:=9) (lit:=false) e26) ?_
 replace hF:=z18 hF;obtain⟨r18,h_27,e28,hF⟩:=hF
 replace hF:=z4 hF;obtain⟨t18,c29,hF⟩:=hF
 have c29:=z22 c29;subst c29;refine WD.call (d:=(some 18)) (by kernel_rfl) (by kernel_rfl) (by kernel_rfl) e28 (k:=2) (by kernel_rfl) (fun _=>(by kernel_rfl)) (by decide) ?_;refine WD.a 0 (some 4) (ze t18) h_27 ?_;refine WD.nil ?_;refine gW [(4,ze t18)] (n4 (oY ?_));exact lZ hF [.tmp 4] [ze t18] (rT zc)
noncomputable def worldF(n:Nat)(call:z11):z11:=z177 [(9,gcF (fn0 (z190 call n))),(22,fn3 Dv (Di .i64) Ds (z81 call n)),(39,fn2 Dv (Di .i64) (zb5 call n)),(55,fn3 Dv (Di .i64) (Di .i64) (zcc call n)),(36,fn2 Dv (Di .i64) (z80 call n)),(14,fn2 Dv (Di .i64) (z9c call n)),(28,fn1 Dv (zf6 call n)),(13,fn1 Dv (zcb call n)),(45,fn2 Dv (Di .i64) (z6c call n)),(46,fn3 Dv (Di .i64) Da (z7f call n)),(61,fn2 Dv Dv (z9b call n)),(62,fn1 Dv (zb4 call n)),(51,gcF (fn1 (Di .i64) (zed call n))),(52,fn2 Dv (Di .i64) (zb7 call n)),(26,fn2 Dv (Di .i64) (zb6 call n)),(27,fn2 Dv (Di .i64) (z9d call n)),(15,fn3 Dv Dv (Di .i64) (z9f call n)),(40,fn3 Dv (Di .i64) (Di .i64) (z9a call n)),(63,fn1 Dv (z6b call n)),(77,fn1 Dv (z39 call n)),(12,fn1 Dv (z9e call n)),(87,gcF (fn2 (Di .u32) Ds (z1b3 call n))),(84,gcF (fn1 Ds (z304 call n))),(74,gcF (fn1 Ds (zf5 call n))),(80,gcF (fn1 Ds (z118 call n))),(57,gcF (fn1 Ds (z175 call n))),(69,gcF (fn1 Ds (z146 call n))),(53,fn1 Ds (z176 call n)),(75,gcF (fn1 (Di .u32) (z1b1 call n))),(58,gcF (fn1 (Di .u64) (z1b0 call n))),(59,gcF (fn1 (Di .u8) (z240 call n))),(70,gcF (fn1 Ds (z1b2 call n))),(76,gcF (fn2 (Di .u64) (Di .i64) (z10f call n))),(79,fn1 Dv (z90 call n)),(71,fn1 Dv (z8f call n)),(72,fn1 Dv (zae call n)),(73,fn1 Dv (z91 call n)),(83,fn1 Dv (z68 call n)),(81,fn2 Dv (Di .i64) (z5e call n)),(82,fn1 Dv (z67 call n)),(86,fn3 Dv (Di .i64) (Di .i64) (z77 call n)),(17,gcF (fn1 Da (z140 call n))),(16,fn1 Dv (zef call n)),(11,fn2 Dv Da (zb2 call n)),(31,fn2 Dv Da (z79 call n)),(33,fn1 Dv (zb1 call n)),(32,gcF (fn1 Da (z78 call n))),(34,fn3 Dv Dv Dv (z7c call n)),(37,fn3 Dv Dv Dv (z7b call n)),(38,fn2 Dv Dv (z7a call n)),(56,gcF (fn2 Da Da (zb0 call n))),(54,gcF (fn1 Ds (zaf call n))),(30,fn3 Da Dv (Di .i64) (z69 call n)),(35,fn2 Dv (Di .i64) (z33 call n)),(60,fn2 Dv (Di .i64) (z40 call n)),(20,gcF (fn0 (z152 call n))),(23,fn3 Dv (Di .i64) Da (z6a call n)),(44,fn2 Dv (Di .i64) (z95 call n)),(25,fn3 Dv Dv (Di .i64) (z7d call n)),(41,fn2 Dv (Di .i64) (z96 call n)),(47,fn2 Dv (Di .i64) (zb3 call n)),(48,fn3 Dv (Di .i64) (Di .i64) (z94 call n)),(65,gcF (fn1 Da (z113 call n))),(50,gcF (fn2 Da Da (z114 call n))),(42,fn1 Ds (z143 call n)),(64,gcF (fn1 Ds (z142 call n))),(66,gcF (fn1 Ds (z172 call n))),(67,gcF (fn2 (Di .u64) (Di .i64) (zf1 call n))),(78,gcF (fn1 Ds (z1b4 call n))),(85,gcF (fn2 (Di .u32) Ds (z145 call n))),(88,gcF (fn2 (Di .u32) (Di .u32) (z144 call n))),(18,gcF (fn1 Da (z171 call n))),(21,fn1 Dv (z141 call n)),(24,fn2 Dv Da (z93 call n)),(43,gcF (fn1 Ds (zf0 call n))),(49,gcF (fn2 (Di .u64) Da (z112 call n)))]
set_option maxRecDepth 20000 in
theorem z47b(n:Nat)(call:z11)(hc:SaysAll Try.prog call):SaysAll Try.prog (worldF n call):=(zd (z2d (z2c8 (z401 hc)))
 (zd (zab Dv (Di .i64) Ds (z1f8 hc))
 (zd (z30 Dv (Di .i64) (z269 hc))
 (zd (zab Dv (Di .i64) (Di .i64) (z291 hc))
 (zd (z30 Dv (Di .i64) (z1f7 hc))
 (zd (z30 Dv (Di .i64) (z231 hc))
 (zd (z23 Dv (z2d4 hc))
 (zd (z23 Dv (z290 hc))
 (zd (z30 Dv (Di .i64) (z1cd hc))
 (zd (zab Dv (Di .i64) Da (z1f6 hc))
 (zd (z30 Dv Dv (z230 hc))
 (zd (z23 Dv (z268 hc))
 (zd (z2d (z23 (Di .i64) (z2fe hc)))
 (zd (z30 Dv (Di .i64) (z26b hc))
 (zd (z30 Dv (Di .i64) (z26a hc))
 (zd (z30 Dv (Di .i64) (z232 hc))
 (zd (zab Dv Dv (Di .i64) (z234 hc))
 (zd (zab Dv (Di .i64) (Di .i64) (z22f hc))
 (zd (z23 Dv (z1cc hc))
 (zd (z23 Dv (z137 hc))
 (zd (z23 Dv (z233 hc))
 (zd (z2d (z30 (Di .u32) Ds (z3d7 hc)))
 (zd (z2d (z23 Ds (z486 hc)))
 (zd (z2d (z23 Ds (z2c7 hc)))
 (zd (z2d (z23 Ds (z2fb hc)))
 (zd (z2d (z23 Ds (z3b2 hc)))
 (zd (z2d (z23 Ds (z359 hc)))
 (zd (z23 Ds (z3b3 hc))
 (zd (z2d (z23 (Di .u32) (z3ce hc)))
 (zd (z2d (z23 (Di .u64) (z3cd hc)))
 (zd (z2d (z23 (Di .u8) (z443 hc)))
 (zd (z2d (z23 Ds (z3cf hc)))
 (zd (z2d (z30 (Di .u64) (Di .i64) (z2e7 hc)))
 (zd (z23 Dv (z1fe hc))
 (zd (z23 Dv (z1fd hc))
 (zd (z23 Dv (z241 hc))
 (zd (z23 Dv (z1ff hc))
 (zd (z23 Dv (z1c6 hc))
 (zd (z30 Dv (Di .i64) (z19e hc))
 (zd (z23 Dv (z1c5 hc))
 (zd (zab Dv (Di .i64) (Di .i64) (z1d4 hc))
 (zd (z2d (z23 Da (z332 hc)))
 (zd (z23 Dv (z2a4 hc))
 (zd (z30 Dv Da (z252 hc))
 (zd (z30 Dv Da (z1de hc))
 (zd (z23 Dv (z251 hc))
 (zd (z2d (z23 Da (z1dd hc)))
 (zd (zab Dv Dv Dv (z1e1 hc))
 (zd (zab Dv Dv Dv (z1e0 hc))
 (zd (z30 Dv Dv (z1df hc))
 (zd (z2d (z30 Da Da (z250 hc)))
 (zd (z2d (z23 Ds (z24f hc)))
 (zd (zab Da Dv (Di .i64) (z1c8 hc))
 (zd (z30 Dv (Di .i64) (z12c hc))
 (zd (z30 Dv (Di .i64) (z15c hc))
 (zd (z2d (z2c8 (z395 hc)))
 (zd (zab Dv (Di .i64) Da (z1cb hc))
 (zd (z30 Dv (Di .i64) (z213 hc))
 (zd (zab Dv Dv (Di .i64) (z1e6 hc))
 (zd (z30 Dv (Di .i64) (z214 hc))
 (zd (z30 Dv (Di .i64) (z257 hc))
 (zd (zab Dv (Di .i64) (Di .i64) (z212 hc))
 (zd (z2d (z23 Da (z33b hc)))
 (zd (z2d (z30 Da Da (z33c hc)))
 (zd (z23 Ds (z33e hc))
 (zd (z2d (z23 Ds (z33d hc)))
 (zd (z2d (z23 Ds (z396 hc)))
 (zd (z2d (z30 (Di .u64) (Di .i64) (z2b4 hc)))
 (zd (z2d (z23 Ds (z3de hc)))
 (zd (z2d (z30 (Di .u32) Ds (z340 hc)))
 (zd (z2d (z30 (Di .u32) (Di .u32) (z33f hc)))
 (zd (z2d (z23 Da (z394 hc)))
 (zd (z23 Dv (z33a hc))
 (zd (z30 Dv Da (z211 hc))
 (zd (z2d (z23 Ds (z2b3 hc)))
 (zd (z2d (z30 (Di .u64) Da (z2f3 hc)))
 z32b))))))))))))))))))))))))))))))))))))))))))))))))))))))))))))))))))))))))))))
noncomputable def world(n d:Nat):z11:=iterW (worldF n) d
theorem world_ok(n d:Nat):SaysAll Try.prog (world n d):=z429 (z47b n) d
theorem z449(n d:Nat)(h:AHeap):world n (d+1) 9 [] h=gcR h (z190 (world n d) n h):=
 Eq.trans (b:=gcR h (fn0 (z190 (world n d) n) [] h)) (by kernel_rfl) (congrArg (gcR h) (fn0_eq _ h))
theorem z20a(n d:Nat)(t0:AV)(t1:Int)(t2:zf)(h:AHeap):world n (d+1) 22 [t0,.int .i64 t1,ze t2] h=z81 (world n d) n t0 t1 t2 h:=
 Eq.trans (b:=fn3 Dv (Di .i64) Ds (z81 (world n d) n) [t0,.int .i64 t1,ze t2] h) (by kernel_rfl) (z19a Dv (Di .i64) Ds _ t0 t1 t2 h)
theorem z289(n d:Nat)(t0:AV)(t1:Int)(h:AHeap):world n (d+1) 39 [t0,.int .i64 t1] h=zb5 (world n d) n t0 t1 h:=
 Eq.trans (b:=fn2 Dv (Di .i64) (zb5 (world n d) n) [t0,.int .i64 t1] h) (by kernel_rfl) (za1 Dv (Di .i64) _ t0 t1 h)
theorem z2a0(n d:Nat)(t0:AV)(t1:Int)(t2:Int)(h:AHeap):world n (d+1) 55 [t0,.int .i64 t1,.int .i64 t2] h=zcc (world n d) n t0 t1 t2 h:=
 Eq.trans (b:=fn3 Dv (Di .i64) (Di .i64) (zcc (world n d) n) [t0,.int .i64 t1,.int .i64 t2] h) (by kernel_rfl) (z19a Dv (Di .i64) (Di .i64) _ t0 t1 t2 h)
theorem z209(n d:Nat)(t0:AV)(t1:Int)(h:AHeap):world n (d+1) 36 [t0,.int .i64 t1] h=z80 (world n d) n t0 t1 h:=
 Eq.trans (b:=fn2 Dv (Di .i64) (z80 (world n d) n) [t0,.int .i64 t1] h) (by kernel_rfl) (za1 Dv (Di .i64) _ t0 t1 h)
theorem z24b(n d:Nat)(t0:AV)(t1:Int)(h:AHeap):world n (d+1) 14 [t0,.int .i64 t1] h=z9c (world n d) n t0 t1 h:=
 Eq.trans (b:=fn2 Dv (Di .i64) (z9c (world n d) n) [t0,.int .i64 t1] h) (by kernel_rfl) (za1 Dv (Di .i64) _ t0 t1 h)
theorem z2ec(n d:Nat)(t0:AV)(h:AHeap):world n (d+1) 28 [t0] h=zf6 (world n d) n t0 h:=
 Eq.trans (b:=fn1 Dv (zf6 (world n d) n) [t0] h) (by kernel_rfl) (z52 Dv _ t0 h)
theorem z29f(n d:Nat)(t0:AV)(h:AHeap):world n (d+1) 13 [t0] h=zcb (world n d) n t0 h:=
 Eq.trans (b:=fn1 Dv (zcb (world n d) n) [t0] h) (by kernel_rfl) (z52 Dv _ t0 h)
theorem z1da(n d:Nat)(t0:AV)(t1:Int)(h:AHeap):world n (d+1) 45 [t0,.int .i64 t1] h=z6c (world n d) n t0 t1 h:=
 Eq.trans (b:=fn2 Dv (Di .i64) (z6c (world n d) n) [t0,.int .i64 t1] h) (by kernel_rfl) (za1 Dv (Di .i64) _ t0 t1 h)
theorem z208(n d:Nat)(t0:AV)(t1:Int)(t2:List AV)(h:AHeap):world n (d+1) 46 [t0,.int .i64 t1,.agg t2] h=z7f (world n d) n t0 t1 t2 h:=
 Eq.trans (b:=fn3 Dv (Di .i64) Da (z7f (world n d) n) [t0,.int .i64 t1,.agg t2] h) (by kernel_rfl) (z19a Dv (Di .i64) Da _ t0 t1 t2 h)
theorem z24a(n d:Nat)(t0:AV)(t1:AV)(h:AHeap):world n (d+1) 61 [t0,t1] h=z9b (world n d) n t0 t1 h:=
 Eq.trans (b:=fn2 Dv Dv (z9b (world n d) n) [t0,t1] h) (by kernel_rfl) (za1 Dv Dv _ t0 t1 h)
theorem z288(n d:Nat)(t0:AV)(h:AHeap):world n (d+1) 62 [t0] h=zb4 (world n d) n t0 h:=
 Eq.trans (b:=fn1 Dv (zb4 (world n d) n) [t0] h) (by kernel_rfl) (z52 Dv _ t0 h)
theorem z331(n d:Nat)(t0:Int)(h:AHeap):world n (d+1) 51 [.int .i64 t0] h=gcR h (zed (world n d) n t0 h):=
 Eq.trans (b:=gcR h (fn1 (Di .i64) (zed (world n d) n) [.int .i64 t0] h)) (by kernel_rfl) (congrArg (gcR h) (z52 (Di .i64) _ t0 h))
theorem z28b(n d:Nat)(t0:AV)(t1:Int)(h:AHeap):world n (d+1) 52 [t0,.int .i64 t1] h=zb7 (world n d) n t0 t1 h:=
 Eq.trans (b:=fn2 Dv (Di .i64) (zb7 (world n d) n) [t0,.int .i64 t1] h) (by kernel_rfl) (za1 Dv (Di .i64) _ t0 t1 h)
theorem z28a(n d:Nat)(t0:AV)(t1:Int)(h:AHeap):world n (d+1) 26 [t0,.int .i64 t1] h=zb6 (world n d) n t0 t1 h:=
 Eq.trans (b:=fn2 Dv (Di .i64) (zb6 (world n d) n) [t0,.int .i64 t1] h) (by kernel_rfl) (za1 Dv (Di .i64) _ t0 t1 h)
theorem z24c(n d:Nat)(t0:AV)(t1:Int)(h:AHeap):world n (d+1) 27 [t0,.int .i64 t1] h=z9d (world n d) n t0 t1 h:=
 Eq.trans (b:=fn2 Dv (Di .i64) (z9d (world n d) n) [t0,.int .i64 t1] h) (by kernel_rfl) (za1 Dv (Di .i64) _ t0 t1 h)
theorem z24e(n d:Nat)(t0:AV)(t1:AV)(t2:Int)(h:AHeap):world n (d+1) 15 [t0,t1,.int .i64 t2] h=z9f (world n d) n t0 t1 t2 h:=
 Eq.trans (b:=fn3 Dv Dv (Di .i64) (z9f (world n d) n) [t0,t1,.int .i64 t2] h) (by kernel_rfl) (z19a Dv Dv (Di .i64) _ t0 t1 t2 h)
theorem z249(n d:Nat)(t0:AV)(t1:Int)(t2:Int)(h:AHeap):world n (d+1) 40 [t0,.int .i64 t1,.int .i64 t2] h=z9a (world n d) n t0 t1 t2 h:=
 Eq.trans (b:=fn3 Dv (Di .i64) (Di .i64) (z9a (world n d) n) [t0,.int .i64 t1,.int .i64 t2] h) (by kernel_rfl) (z19a Dv (Di .i64) (Di .i64) _ t0 t1 t2 h)
theorem z1d9(n d:Nat)(t0:AV)(h:AHeap):world n (d+1) 63 [t0] h=z6b (world n d) n t0 h:=
 Eq.trans (b:=fn1 Dv (z6b (world n d) n) [t0] h) (by kernel_rfl) (z52 Dv _ t0 h)
theorem z149(n d:Nat)(t0:AV)(h:AHeap):world n (d+1) 77 [t0] h=z39 (world n d) n t0 h:=
 Eq.trans (b:=fn1 Dv (z39 (world n d) n) [t0] h) (by kernel_rfl) (z52 Dv _ t0 h)
theorem z24d(n d:Nat)(t0:AV)(h:AHeap):world n (d+1) 12 [t0] h=z9e (world n d) n t0 h:=
 Eq.trans (b:=fn1 Dv (z9e (world n d) n) [t0] h) (by kernel_rfl) (z52 Dv _ t0 h)
theorem z447(n d:Nat)(t0:Int)(t1:zf)(h:AHeap):world n (d+1) 87 [.int .u32 t0,ze t1] h=gcR h (z1b3 (world n d) n t0 t1 h):=
 Eq.trans (b:=gcR h (fn2 (Di .u32) Ds (z1b3 (world n d) n) [.int .u32 t0,ze t1] h)) (by kernel_rfl) (congrArg (gcR h) (za1 (Di .u32) Ds _ t0 t1 h))
theorem w_sum_Of(n d:Nat)(t0:zf)(h:AHeap):world n (d+1) 84 [ze t0] h=gcR h (z304 (world n d) n t0 h):=
 Eq.trans (b:=gcR h (fn1 Ds (z304 (world n d) n) [ze t0] h)) (by kernel_rfl) (congrArg (gcR h) (z52 Ds _ t0 h))
theorem z2eb(n d:Nat)(t0:zf)(h:AHeap):world n (d+1) 74 [ze t0] h=gcR h (zf5 (world n d) n t0 h):=
 Eq.trans (b:=gcR h (fn1 Ds (zf5 (world n d) n) [ze t0] h)) (by kernel_rfl) (congrArg (gcR h) (z52 Ds _ t0 h))
theorem z330(n d:Nat)(t0:zf)(h:AHeap):world n (d+1) 80 [ze t0] h=gcR h (z118 (world n d) n t0 h):=
 Eq.trans (b:=gcR h (fn1 Ds (z118 (world n d) n) [ze t0] h)) (by kernel_rfl) (congrArg (gcR h) (z52 Ds _ t0 h))
theorem z3d3(n d:Nat)(t0:zf)(h:AHeap):world n (d+1) 57 [ze t0] h=gcR h (z175 (world n d) n t0 h):=
 Eq.trans (b:=gcR h (fn1 Ds (z175 (world n d) n) [ze t0] h)) (by kernel_rfl) (congrArg (gcR h) (z52 Ds _ t0 h))
theorem z37f(n d:Nat)(t0:zf)(h:AHeap):world n (d+1) 69 [ze t0] h=gcR h (z146 (world n d) n t0 h):=
 Eq.trans (b:=gcR h (fn1 Ds (z146 (world n d) n) [ze t0] h)) (by kernel_rfl) (congrArg (gcR h) (z52 Ds _ t0 h))
theorem z3d4(n d:Nat)(t0:zf)(h:AHeap):world n (d+1) 53 [ze t0] h=z176 (world n d) n t0 h:=
 Eq.trans (b:=fn1 Ds (z176 (world n d) n) [ze t0] h) (by kernel_rfl) (z52 Ds _ t0 h)
theorem z445(n d:Nat)(t0:Int)(h:AHeap):world n (d+1) 75 [.int .u32 t0] h=gcR h (z1b1 (world n d) n t0 h):=
 Eq.trans (b:=gcR h (fn1 (Di .u32) (z1b1 (world n d) n) [.int .u32 t0] h)) (by kernel_rfl) (congrArg (gcR h) (z52 (Di .u32) _ t0 h))
theorem z444(n d:Nat)(t0:Int)(h:AHeap):world n (d+1) 58 [.int .u64 t0] h=gcR h (z1b0 (world n d) n t0 h):=
 Eq.trans (b:=gcR h (fn1 (Di .u64) (z1b0 (world n d) n) [.int .u64 t0] h)) (by kernel_rfl) (congrArg (gcR h) (z52 (Di .u64) _ t0 h))
theorem z47d(n d:Nat)(t0:Int)(h:AHeap):world n (d+1) 59 [.int .u8 t0] h=gcR h (z240 (world n d) n t0 h):=
 Eq.trans (b:=gcR h (fn1 (Di .u8) (z240 (world n d) n) [.int .u8 t0] h)) (by kernel_rfl) (congrArg (gcR h) (z52 (Di .u8) _ t0 h))
theorem z446(n d:Nat)(t0:zf)(h:AHeap):world n (d+1) 70 [ze t0] h=gcR h (z1b2 (world n d) n t0 h):=
 Eq.trans (b:=gcR h (fn1 Ds (z1b2 (world n d) n) [ze t0] h)) (by kernel_rfl) (congrArg (gcR h) (z52 Ds _ t0 h))
theorem z32e(n d:Nat)(t0:Int)(t1:Int)(h:AHeap):world n (d+1) 76 [.int .u64 t0,.int .i64 t1] h=gcR h (z10f (world n d) n t0 t1 h):=
 Eq.trans (b:=gcR h (fn2 (Di .u64) (Di .i64) (z10f (world n d) n) [.int .u64 t0,.int .i64 t1] h)) (by kernel_rfl) (congrArg (gcR h) (za1 (Di .u64) (Di .i64) _ t0 t1 h))
theorem z243(n d:Nat)(t0:AV)(h:AHeap):world n (d+1) 79 [t0] h=z90 (world n d) n t0 h:=
 Eq.trans (b:=fn1 Dv (z90 (world n d) n) [t0] h) (by kernel_rfl) (z52 Dv _ t0 h)
theorem z242(n d:Nat)(t0:AV)(h:AHeap):world n (d+1) 71 [t0] h=z8f (world n d) n t0 h:=
 Eq.trans (b:=fn1 Dv (z8f (world n d) n) [t0] h) (by kernel_rfl) (z52 Dv _ t0 h)
theorem z282(n d:Nat)(t0:AV)(h:AHeap):world n (d+1) 72 [t0] h=zae (world n d) n t0 h:=
 Eq.trans (b:=fn1 Dv (zae (world n d) n) [t0] h) (by kernel_rfl) (z52 Dv _ t0 h)
theorem z244(n d:Nat)(t0:AV)(h:AHeap):world n (d+1) 73 [t0] h=z91 (world n d) n t0 h:=
 Eq.trans (b:=fn1 Dv (z91 (world n d) n) [t0] h) (by kernel_rfl) (z52 Dv _ t0 h)
theorem z1d6(n d:Nat)(t0:AV)(h:AHeap):world n (d+1) 83 [t0] h=z68 (world n d) n t0 h:=
 Eq.trans (b:=fn1 Dv (z68 (world n d) n) [t0] h) (by kernel_rfl) (z52 Dv _ t0 h)
theorem z1c7(n d:Nat)(t0:AV)(t1:Int)(h:AHeap):world n (d+1) 81 [t0,.int .i64 t1] h=z5e (world n d) n t0 t1 h:=
 Eq.trans (b:=fn2 Dv (Di .i64) (z5e (world n d) n) [t0,.int .i64 t1] h) (by kernel_rfl) (za1 Dv (Di .i64) _ t0 t1 h)
theorem z1d5(n d:Nat)(t0:AV)(h:AHeap):world n (d+1) 82 [t0] h=z67 (world n d) n t0 h:=
 Eq.trans (b:=fn1 Dv (z67 (world n d) n) [t0] h) (by kernel_rfl) (z52 Dv _ t0 h)
theorem z201(n d:Nat)(t0:AV)(t1:Int)(t2:Int)(h:AHeap):world n (d+1) 86 [t0,.int .i64 t1,.int .i64 t2] h=z77 (world n d) n t0 t1 t2 h:=
 Eq.trans (b:=fn3 Dv (Di .i64) (Di .i64) (z77 (world n d) n) [t0,.int .i64 t1,.int .i64 t2] h) (by kernel_rfl) (z19a Dv (Di .i64) (Di .i64) _ t0 t1 t2 h)
theorem z377(n d:Nat)(t0:List AV)(h:AHeap):world n (d+1) 17 [.agg t0] h=gcR h (z140 (world n d) n t0 h):=
 Eq.trans (b:=gcR h (fn1 Da (z140 (world n d) n) [.agg t0] h)) (by kernel_rfl) (congrArg (gcR h) (z52 Da _ t0 h))
theorem z2e8(n d:Nat)(t0:AV)(h:AHeap):world n (d+1) 16 [t0] h=zef (world n d) n t0 h:=
 Eq.trans (b:=fn1 Dv (zef (world n d) n) [t0] h) (by kernel_rfl) (z52 Dv _ t0 h)
theorem z286(n d:Nat)(t0:AV)(t1:List AV)(h:AHeap):world n (d+1) 11 [t0,.agg t1] h=zb2 (world n d) n t0 t1 h:=
 Eq.trans (b:=fn2 Dv Da (zb2 (world n d) n) [t0,.agg t1] h) (by kernel_rfl) (za1 Dv Da _ t0 t1 h)
theorem z203(n d:Nat)(t0:AV)(t1:List AV)(h:AHeap):world n (d+1) 31 [t0,.agg t1] h=z79 (world n d) n t0 t1 h:=
 Eq.trans (b:=fn2 Dv Da (z79 (world n d) n) [t0,.agg t1] h) (by kernel_rfl) (za1 Dv Da _ t0 t1 h)
theorem z285(n d:Nat)(t0:AV)(h:AHeap):world n (d+1) 33 [t0] h=zb1 (world n d) n t0 h:=
 Eq.trans (b:=fn1 Dv (zb1 (world n d) n) [t0] h) (by kernel_rfl) (z52 Dv _ t0 h)
theorem z202(n d:Nat)(t0:List AV)(h:AHeap):world n (d+1) 32 [.agg t0] h=gcR h (z78 (world n d) n t0 h):=
 Eq.trans (b:=gcR h (fn1 Da (z78 (world n d) n) [.agg t0] h)) (by kernel_rfl) (congrArg (gcR h) (z52 Da _ t0 h))
theorem z206(n d:Nat)(t0:AV)(t1:AV)(t2:AV)(h:AHeap):world n (d+1) 34 [t0,t1,t2] h=z7c (world n d) n t0 t1 t2 h:=
 Eq.trans (b:=fn3 Dv Dv Dv (z7c (world n d) n) [t0,t1,t2] h) (by kernel_rfl) (z19a Dv Dv Dv _ t0 t1 t2 h)
theorem z205(n d:Nat)(t0:AV)(t1:AV)(t2:AV)(h:AHeap):world n (d+1) 37 [t0,t1,t2] h=z7b (world n d) n t0 t1 t2 h:=
 Eq.trans (b:=fn3 Dv Dv Dv (z7b (world n d) n) [t0,t1,t2] h) (by kernel_rfl) (z19a Dv Dv Dv _ t0 t1 t2 h)
theorem z204(n d:Nat)(t0:AV)(t1:AV)(h:AHeap):world n (d+1) 38 [t0,t1] h=z7a (world n d) n t0 t1 h:=
 Eq.trans (b:=fn2 Dv Dv (z7a (world n d) n) [t0,t1] h) (by kernel_rfl) (za1 Dv Dv _ t0 t1 h)
theorem z284(n d:Nat)(t0:List AV)(t1:List AV)(h:AHeap):world n (d+1) 56 [.agg t0,.agg t1] h=gcR h (zb0 (world n d) n t0 t1 h):=
 Eq.trans (b:=gcR h (fn2 Da Da (zb0 (world n d) n) [.agg t0,.agg t1] h)) (by kernel_rfl) (congrArg (gcR h) (za1 Da Da _ t0 t1 h))
theorem z283(n d:Nat)(t0:zf)(h:AHeap):world n (d+1) 54 [ze t0] h=gcR h (zaf (world n d) n t0 h):=
 Eq.trans (b:=gcR h (fn1 Ds (zaf (world n d) n) [ze t0] h)) (by kernel_rfl) (congrArg (gcR h) (z52 Ds _ t0 h))
theorem z1d7(n d:Nat)(t0:List AV)(t1:AV)(t2:Int)(h:AHeap):world n (d+1) 30 [.agg t0,t1,.int .i64 t2] h=z69 (world n d) n t0 t1 t2 h:=
 Eq.trans (b:=fn3 Da Dv (Di .i64) (z69 (world n d) n) [.agg t0,t1,.int .i64 t2] h) (by kernel_rfl) (z19a Da Dv (Di .i64) _ t0 t1 t2 h)
theorem z134(n d:Nat)(t0:AV)(t1:Int)(h:AHeap):world n (d+1) 35 [t0,.int .i64 t1] h=z33 (world n d) n t0 t1 h:=
 Eq.trans (b:=fn2 Dv (Di .i64) (z33 (world n d) n) [t0,.int .i64 t1] h) (by kernel_rfl) (za1 Dv (Di .i64) _ t0 t1 h)
theorem z163(n d:Nat)(t0:AV)(t1:Int)(h:AHeap):world n (d+1) 60 [t0,.int .i64 t1] h=z40 (world n d) n t0 t1 h:=
 Eq.trans (b:=fn2 Dv (Di .i64) (z40 (world n d) n) [t0,.int .i64 t1] h) (by kernel_rfl) (za1 Dv (Di .i64) _ t0 t1 h)
theorem z3d1(n d:Nat)(h:AHeap):world n (d+1) 20 [] h=gcR h (z152 (world n d) n h):=
 Eq.trans (b:=gcR h (fn0 (z152 (world n d) n) [] h)) (by kernel_rfl) (congrArg (gcR h) (fn0_eq _ h))
theorem z1d8(n d:Nat)(t0:AV)(t1:Int)(t2:List AV)(h:AHeap):world n (d+1) 23 [t0,.int .i64 t1,.agg t2] h=z6a (world n d) n t0 t1 t2 h:=
 Eq.trans (b:=fn3 Dv (Di .i64) Da (z6a (world n d) n) [t0,.int .i64 t1,.agg t2] h) (by kernel_rfl) (z19a Dv (Di .i64) Da _ t0 t1 t2 h)
theorem z247(n d:Nat)(t0:AV)(t1:Int)(h:AHeap):world n (d+1) 44 [t0,.int .i64 t1] h=z95 (world n d) n t0 t1 h:=
 Eq.trans (b:=fn2 Dv (Di .i64) (z95 (world n d) n) [t0,.int .i64 t1] h) (by kernel_rfl) (za1 Dv (Di .i64) _ t0 t1 h)
theorem z207(n d:Nat)(t0:AV)(t1:AV)(t2:Int)(h:AHeap):world n (d+1) 25 [t0,t1,.int .i64 t2] h=z7d (world n d) n t0 t1 t2 h:=
 Eq.trans (b:=fn3 Dv Dv (Di .i64) (z7d (world n d) n) [t0,t1,.int .i64 t2] h) (by kernel_rfl) (z19a Dv Dv (Di .i64) _ t0 t1 t2 h)
theorem z248(n d:Nat)(t0:AV)(t1:Int)(h:AHeap):world n (d+1) 41 [t0,.int .i64 t1] h=z96 (world n d) n t0 t1 h:=
 Eq.trans (b:=fn2 Dv (Di .i64) (z96 (world n d) n) [t0,.int .i64 t1] h) (by kernel_rfl) (za1 Dv (Di .i64) _ t0 t1 h)
theorem z287(n d:Nat)(t0:AV)(t1:Int)(h:AHeap):world n (d+1) 47 [t0,.int .i64 t1] h=zb3 (world n d) n t0 t1 h:=
 Eq.trans (b:=fn2 Dv (Di .i64) (zb3 (world n d) n) [t0,.int .i64 t1] h) (by kernel_rfl) (za1 Dv (Di .i64) _ t0 t1 h)
theorem z246(n d:Nat)(t0:AV)(t1:Int)(t2:Int)(h:AHeap):world n (d+1) 48 [t0,.int .i64 t1,.int .i64 t2] h=z94 (world n d) n t0 t1 t2 h:=
 Eq.trans (b:=fn3 Dv (Di .i64) (Di .i64) (z94 (world n d) n) [t0,.int .i64 t1,.int .i64 t2] h) (by kernel_rfl) (z19a Dv (Di .i64) (Di .i64) _ t0 t1 t2 h)
theorem z379(n d:Nat)(t0:List AV)(h:AHeap):world n (d+1) 65 [.agg t0] h=gcR h (z113 (world n d) n t0 h):=
 Eq.trans (b:=gcR h (fn1 Da (z113 (world n d) n) [.agg t0] h)) (by kernel_rfl) (congrArg (gcR h) (z52 Da _ t0 h))
theorem z37a(n d:Nat)(t0:List AV)(t1:List AV)(h:AHeap):world n (d+1) 50 [.agg t0,.agg t1] h=gcR h (z114 (world n d) n t0 t1 h):=
 Eq.trans (b:=gcR h (fn2 Da Da (z114 (world n d) n) [.agg t0,.agg t1] h)) (by kernel_rfl) (congrArg (gcR h) (za1 Da Da _ t0 t1 h))
theorem z37c(n d:Nat)(t0:zf)(h:AHeap):world n (d+1) 42 [ze t0] h=z143 (world n d) n t0 h:=
 Eq.trans (b:=fn1 Ds (z143 (world n d) n) [ze t0] h) (by kernel_rfl) (z52 Ds _ t0 h)
theorem z37b(n d:Nat)(t0:zf)(h:AHeap):world n (d+1) 64 [ze t0] h=gcR h (z142 (world n d) n t0 h):=
 Eq.trans (b:=gcR h (fn1 Ds (z142 (world n d) n) [ze t0] h)) (by kernel_rfl) (congrArg (gcR h) (z52 Ds _ t0 h))
theorem z3d2(n d:Nat)(t0:zf)(h:AHeap):world n (d+1) 66 [ze t0] h=gcR h (z172 (world n d) n t0 h):=
 Eq.trans (b:=gcR h (fn1 Ds (z172 (world n d) n) [ze t0] h)) (by kernel_rfl) (congrArg (gcR h) (z52 Ds _ t0 h))
theorem z2ea(n d:Nat)(t0:Int)(t1:Int)(h:AHeap):world n (d+1) 67 [.int .u64 t0,.int .i64 t1] h=gcR h (zf1 (world n d) n t0 t1 h):=
 Eq.trans (b:=gcR h (fn2 (Di .u64) (Di .i64) (zf1 (world n d) n) [.int .u64 t0,.int .i64 t1] h)) (by kernel_rfl) (congrArg (gcR h) (za1 (Di .u64) (Di .i64) _ t0 t1 h))
theorem z448(n d:Nat)(t0:zf)(h:AHeap):world n (d+1) 78 [ze t0] h=gcR h (z1b4 (world n d) n t0 h):=
 Eq.trans (b:=gcR h (fn1 Ds (z1b4 (world n d) n) [ze t0] h)) (by kernel_rfl) (congrArg (gcR h) (z52 Ds _ t0 h))
theorem z37e(n d:Nat)(t0:Int)(t1:zf)(h:AHeap):world n (d+1) 85 [.int .u32 t0,ze t1] h=gcR h (z145 (world n d) n t0 t1 h):=
 Eq.trans (b:=gcR h (fn2 (Di .u32) Ds (z145 (world n d) n) [.int .u32 t0,ze t1] h)) (by kernel_rfl) (congrArg (gcR h) (za1 (Di .u32) Ds _ t0 t1 h))
theorem z37d(n d:Nat)(t0:Int)(t1:Int)(h:AHeap):world n (d+1) 88 [.int .u32 t0,.int .u32 t1] h=gcR h (z144 (world n d) n t0 t1 h):=
 Eq.trans (b:=gcR h (fn2 (Di .u32) (Di .u32) (z144 (world n d) n) [.int .u32 t0,.int .u32 t1] h)) (by kernel_rfl) (congrArg (gcR h) (za1 (Di .u32) (Di .u32) _ t0 t1 h))
theorem z3d0(n d:Nat)(t0:List AV)(h:AHeap):world n (d+1) 18 [.agg t0] h=gcR h (z171 (world n d) n t0 h):=
 Eq.trans (b:=gcR h (fn1 Da (z171 (world n d) n) [.agg t0] h)) (by kernel_rfl) (congrArg (gcR h) (z52 Da _ t0 h))
theorem z378(n d:Nat)(t0:AV)(h:AHeap):world n (d+1) 21 [t0] h=z141 (world n d) n t0 h:=
 Eq.trans (b:=fn1 Dv (z141 (world n d) n) [t0] h) (by kernel_rfl) (z52 Dv _ t0 h)
theorem z245(n d:Nat)(t0:AV)(t1:List AV)(h:AHeap):world n (d+1) 24 [t0,.agg t1] h=z93 (world n d) n t0 t1 h:=
 Eq.trans (b:=fn2 Dv Da (z93 (world n d) n) [t0,.agg t1] h) (by kernel_rfl) (za1 Dv Da _ t0 t1 h)
theorem z2e9(n d:Nat)(t0:zf)(h:AHeap):world n (d+1) 43 [ze t0] h=gcR h (zf0 (world n d) n t0 h):=
 Eq.trans (b:=gcR h (fn1 Ds (zf0 (world n d) n) [ze t0] h)) (by kernel_rfl) (congrArg (gcR h) (z52 Ds _ t0 h))
theorem z32f(n d:Nat)(t0:Int)(t1:List AV)(h:AHeap):world n (d+1) 49 [.int .u64 t0,.agg t1] h=gcR h (z112 (world n d) n t0 t1 h):=
 Eq.trans (b:=gcR h (fn2 (Di .u64) Da (z112 (world n d) n) [.int .u64 t0,.agg t1] h)) (by kernel_rfl) (congrArg (gcR h) (za1 (Di .u64) Da _ t0 t1 h))
end Go.Proofs.Yteecmjmglmpbpaa
namespace Go.Proofs.Yteecmjmglmpbpaa.Abs
noncomputable section
open Go.RowKit
def Wp(x:R)(Q:ARes→AHeap→Prop):Prop:=∃r h,x=some (r,h)∧Q r h
section
variable {α β:Type}{Q Q':ARes→AHeap→Prop}{r:ARes}{h h1:AHeap}{v:AV}{x y:R}{b:Bool}
theorem Wp.ret(hq:Q r h):Wp (some (r,h)) Q:=⟨r,h,rfl,hq⟩
theorem Wp.of(e:x=some (r,h))(hq:Q r h):Wp x Q:=⟨r,h,e,hq⟩
theorem Wp.mono(k:Wp x Q)(hq:∀r h,Q r h→Q' r h):Wp x Q':=by
 obtain⟨r,h,e,q⟩:=k;exact⟨r,h,e,hq r h q⟩
theorem Wp.eq(k:Wp x fun r' h'=>r'=r∧h'=h):x=some (r,h):=by
 obtain⟨_,_,e,rfl,rfl⟩:=k;exact e
theorem Wp.ex{Q:AHeap→Prop}(k:Wp x fun r' h'=>r'=r∧Q h'):∃h',x=some (r,h')∧Q h':=by
 obtain⟨_,h',e,rfl,q⟩:=k;exact⟨h',e,q⟩
theorem Wp.lett{v:α}{k:α→R}(hk:Wp (k v) Q):Wp (lett v k) Q:=hk
theorem yd{v:Int}{k:Int→R}(h1: -9223372036854775808≤v)(h2:v<9223372036854775808)(hk:Wp (k v) Q):Wp (Abs.lett (IntKind.i64.wrap v) k) Q:=by
 rw[z1fc h1 h2];exact hk
theorem y26{v:Int}{k:Int→R}(h1:0≤v)(h2:v<256)(hk:Wp (k v) Q):Wp (Abs.lett (IntKind.u8.wrap v) k) Q:=by
 rw[wrap_u8 h1 h2];exact hk
theorem y19{v:Int}{k:Int→R}(h1:0≤v)(h2:v<4294967296)(hk:Wp (k v) Q):Wp (Abs.lett (IntKind.u32.wrap v) k) Q:=by
 rw[z123,Int.emod_eq_of_lt h1 h2];exact hk
theorem y13{v:Int}{k:Int→R}(h1:0≤v)(h2:v<18446744073709551616)(hk:Wp (k v) Q):Wp (Abs.lett (IntKind.u64.wrap v) k) Q:=by
 rw[zee,Int.emod_eq_of_lt h1 h2];exact hk
theorem y1f{F:α→AHeap→R}{G:(α→AHeap→R)→R}(hk:∀k,k=F→Wp (G k) Q):Wp (Abs.lett F G) Q:=hk F rfl
theorem y2f{k F:α→AHeap→R}{a:α}(e:k=F)(hk:Wp (F a h) Q):Wp (k a h) Q:=by rw[e];exact hk
theorem Wp.obind{o:Option α}{a:α}{k:α→R}(e:o=some a)(hk:Wp (k a) Q):Wp (Abs.obind o k) Q:=by rw[e];exact hk
theorem yc(e:b=true)(hk:Wp x Q):Wp (ifB b x y) Q:=by rw[e];exact hk
theorem y9(e:b=false)(hk:Wp y Q):Wp (ifB b x y) Q:=by rw[e];exact hk
theorem Wp.outK{o:z8e}{k:AV→AHeap→R}(e:o=some (.val v,h1))(hk:Wp (k v h1) Q):Wp (Abs.outK o k) Q:=by rw[e];exact hk
theorem Wp.callN{k:AV→AHeap→R}(e:x=some (.ret v,h1))(hk:Wp (k v h1) Q):Wp (Abs.callN x k) Q:=by rw[e];exact hk
theorem Wp.callK{k:AV→AHeap→R}(e:x=some (.ret v,h1))(hk:Wp (k v h1) Q):Wp (Abs.callK x k) Q:=by rw[e];exact hk
theorem Wp.chk(e:b=true)(hk:Wp x Q):Wp (Abs.chk b x) Q:=by rw[e];exact hk
theorem y3b(hx:Wp x fun r h'=>Above h h'∧r.val.scal=true∧Q r h):Wp (gcR h x) Q:=by
 obtain⟨r,h',e,ha,hv,q⟩:=hx;rw[e,z357 ha hv];exact⟨_,_,rfl,q⟩
theorem y34(hx:Wp x fun r h'=>Q r h'∧(Above h h'→Q r h)):Wp (gcR h x) Q:=by
 obtain⟨r,h',e,q1,q2⟩:=hx;rw[e];unfold gcR
 split
 ·rename_i e2
  simp only[Option.some.injEq,Prod.mk.injEq] at e2;obtain⟨rfl,rfl⟩:=e2
  split
  ·rename_i hc
   exact⟨_,_,rfl,q2 hc.1⟩
  ·exact⟨_,_,rfl,q1⟩
 ·rename_i e2
  cases e2
theorem Wp.gcn(hx:Wp x fun r h'=>r.val.lo h.next=false∧Q r h'):Wp (gcR h x) Q:=by
 obtain⟨r,h',e,hv,q⟩:=hx;rw[e,z355 hv];exact⟨_,_,rfl,q⟩
end
theorem z58{l:zf}{a b:Int}(h0:0≤a)(h1:a≤b)(h2:b≤(l.length:Int)):z5f l a b=some ((l.drop a.toNat).take (b.toNat - a.toNat)):=by
 obtain⟨n,rfl⟩:=Int.eq_ofNat_of_zero_le h0;obtain⟨m,rfl⟩:=Int.eq_ofNat_of_zero_le (Int.le_trans h0 h1);exact z44c (by omega) (by omega)
theorem z122{a b:zf}(h:a.length+b.length≤1000000000):z43f a b=some (a++b):=by
 unfold z43f;rw[Nat.ble_eq_true_of_le h]
theorem z8(b o:Nat):z34 (.ptr b o)=some (.ptr b o):=rfl
theorem z6(f b o:Nat):z20 f (.ptr b o)=some (.ptr b (o+f)):=rfl
theorem z35(h:AHeap):z1a h=.ptr h.next 0:=rfl
theorem z11b{a b:Int}(h:a≠b):(a != b)=true:=by simp[h]
theorem ze6{a b:Int}(h:a=b):(a != b)=false:=by simp[h]
theorem zbb{a b:Int}(h:a=b):(a == b)=true:=by simp[h]
theorem z8d{a b:Int}(h:a≠b):(a == b)=false:=by simp[h]
section
variable {Q:ARes→AHeap→Prop}{h:AHeap}{b o n:Nat}{e:TypeId}{l vs:List AV}{v:AV}{K:AHeap→R}
theorem Wp.st1(k:RowH h b e l)(ho:o<l.length)(h1:v.one=true)(hk:∀h',RowH h' b e (l.set o v)→Tch [b] h h'→h'.next=h.next→Wp (K h') Q):Wp (Abs.obind (z27 h 1 [v] (.ptr b o)) K) Q:=by
 obtain⟨h',e1,e2,e3,e4,e5⟩:=k.st1 ho h1;exact Wp.obind e1 (hk h' e2 (z385 e3 e4 e5 (.inl (by simp))) e3)
theorem y32(k:RowH h b e l)(hn:vs.length=n)(ho:o+n≤l.length)(h1:vs.all AV.one=true)(hk:∀h',RowH h' b e (z3c9 l o vs)→Tch [b] h h'→h'.next=h.next→Wp (K h') Q):Wp (Abs.obind (z27 h n vs (.ptr b o)) K) Q:=by
 obtain⟨h',e1,e2,e3,e4,e5⟩:=k.st hn ho h1;exact Wp.obind e1 (hk h' e2 (z385 e3 e4 e5 (.inl (by simp))) e3)
theorem Wp.stAll(k:RowH h b e l)(hn:vs.length=n)(hl:l.length=n)(h1:vs.all AV.one=true)(hk:∀h',RowH h' b e vs→Tch [b] h h'→h'.next=h.next→Wp (K h') Q):Wp (Abs.obind (z27 h n vs (.ptr b 0)) K) Q:=by
 obtain⟨h',e1,e2,e3,e4,e5⟩:=k.stAll hn hl h1;exact Wp.obind e1 (hk h' e2 (z385 e3 e4 e5 (.inl (by simp))) e3)
end
def Sli(e sz lo:Nat)(h:AHeap)(v:AV)(rows:List (List AV)):Prop:=
 (∀r∈rows,r.length=sz∧r.all AV.one=true)∧((rows=[]∧v=.nsl)∨∃c,rows≠[]∧v=.sl c 0 rows.length sz∧lo≤c∧c<h.next∧RowH h c e rows.flatten)
section
variable {P:Program}{e sz lo:Nat}{h h':AHeap}{v x:AV}{rows:List (List AV)}{r:List AV}{t u:TypeId}{S:List Nat}
theorem Sli.nil(e sz lo:Nat)(h:AHeap):Sli e sz lo h .nsl []:=⟨by simp,.inl ⟨rfl,rfl⟩⟩
theorem Sli.ab(k:Sli e sz lo h v rows)(hn:h.next≤h'.next)(hg:∀b,lo≤b→b<h.next→h'.get b=h.get b):Sli e sz lo h' v rows:=by
 refine⟨k.1,?_⟩
 rcases k.2 with h0|⟨c,h1,h2,h3,h4,h5⟩
 ·exact .inl h0
 ·exact .inr ⟨c,h1,h2,h3,by omega,h5.same (hg c h3 h4)⟩
theorem Sli.tch(k:Sli e sz lo h v rows)(ht:Tch S h h')(hS:∀b∈S,b<lo):Sli e sz lo h' v rows:=
 k.ab ht.1 fun b h1 h2=>ht.2.2 b h2 fun hm=>by have:=hS b hm;omega
theorem Sli.push(k:Sli e sz lo h v rows){B:Nat}(he:elemOf P t=some e)(hu:z155 P u=true)(hsz:P.cellsOf e=sz)(hfit:z477 P e B=true)(hex:z10a e h.ex=false)(hlo:lo≤h.next)(hx:z276 x=some 1)(hf:z10e h sz 1 x=some r)(hr:r.length=sz)(hr1:r.all AV.one=true)(hbig:(rows.length+1)*B≤1000000000)(hbig2:rows.length+1≤1000000000):
  ∃v' h',z41 P h t u v x=some (.val v',h')∧Sli e sz lo h' v' (rows++[r])∧Ab lo h h':=by
 have hall:∀q∈rows++[r],q.length=sz∧q.all AV.one=true:=by
  intro q hq
  rcases List.mem_append.1 hq with hq|hq
  ·exact k.1 q hq
  ·simp at hq
   subst hq;exact⟨hr,hr1⟩
 have hfl:(rows++[r]).flatten=rows.flatten++r:=by simp
 rcases k.2 with⟨rfl,rfl⟩|⟨c,h1,rfl,h3,h4,h5⟩
 ·have a1 := z148 (P := P) (h := h) (t := t) (u := u) (n := 0) (x := x) he hu hsz hx hf (z4b hfit (by simpa using hbig) (by omega)) hr1 hex
  refine⟨_,_,a1,⟨hall,.inr ⟨h.next,by simp,rfl,hlo,Nat.lt_succ_self _,?_⟩⟩,(Ab.refl lo h).new hlo _⟩;rw[hfl];exact RowH.new _ _ _
 ·have hl := z224 rows (fun l hl => (k.1 l hl).1)
  have a1:=z11c (P:=P) (h:=h) (t:=t) (u:=u) (b:=c) (o:=0) (m:=rows.length) (n:=0) (x:=x) (cs:=rows.flatten) he hu hsz hx hf (z4b hfit hbig hbig2) hr1 hex (by
   have:=h5.part (o:=0) (n:=rows.flatten.length) (by omega);rw[List.drop_zero,List.take_length] at this;rw[←hl];exact this) h5.type
  refine⟨_,_,a1,⟨hall,.inr ⟨h.next,by simp,by simp,hlo,Nat.lt_succ_self _,?_⟩⟩,((Ab.refl lo h).put h3 _).new (by show lo≤h.next;exact hlo) _⟩;rw[hfl];exact RowH.new (h.put c .dead) e _
end
end
noncomputable section
open Go.RowKit
section
variable (P:Program)(w0:Base)(m0:Map)(N:Nat)(rd:Option Nat)(n:Nat)
def WR(c:Code)(Q:Exit→Act→World→Prop)(l:Fr)(ds:DefT)(h:AHeap):Prop:=Go w0 m0 N (c.wpIn (FW rd) n P Q) l ds h
def WLR(ops:Array Oper)(i:Nat)(Q:Exit→Act→World→Prop)(l:Fr)(ds:DefT)(h:AHeap):Prop:=Go w0 m0 N (wpListIn (FW rd) n P ops Q (ops.toList.drop i)) l ds h
def InLR(c:Code)(Q:Exit→Act→World→Prop)(act:Act)(w:World):Prop:=∀(b:Frame) (k:List Item) (cs:List Frame),b.roundOf=(FW rd).round→
 ∃e a' w',Q e a' w'∧ArrivesIn (Machine.fenced P (FW rd)) P (lone (b.atR act (.code c:: .inLoop c::k)) cs w) b k cs e a' w'
end
section
variable {P:Program}{w0:Base}{m0:Map}{N:Nat}{rd:Option Nat}{n:Nat}{l l':Fr}{ds:DefT}{h h':AHeap}{Q:Exit→Act→World→Prop}{K:Act→World→Prop}{both:z46}
theorem WR.weaken{c:Code}(hs:l.sub l')(hk:WR P w0 m0 N rd n c Q l' ds h):WR P w0 m0 N rd n c Q l ds h:=Go.weaken hs hk
theorem WLR.weaken{ops:Array Oper}{i:Nat}(hs:l.sub l')(hk:WLR P w0 m0 N rd n ops i Q l' ds h):WLR P w0 m0 N rd n ops i Q l ds h:=Go.weaken hs hk
theorem WR.skip{c:Code}(hc:Code.kind c=0)(hk:Go w0 m0 N (Q .normal) l ds h):WR P w0 m0 N rd n c Q l ds h:=by
 cases c<;>first|(exact fun m act w he ha F=>wpIn_skip (hk m act w he ha F))|(simp[Code.kind] at hc;done)|(rename_i d;cases d<;>simp[Code.kind] at hc)
theorem WR.seq{c:Code}(hc:Code.kind c=1)(hk:WR P w0 m0 N rd n (y6 c) (Exit.then ((y4 c).wpIn (FW rd) n P Q) Q) l ds h):WR P w0 m0 N rd n c Q l ds h:=by
 cases c<;>first|(exact fun m act w he ha F=>wpIn_seq (hk m act w he ha F))|(simp[Code.kind] at hc;done)|(rename_i d;cases d<;>simp[Code.kind] at hc)
theorem WR.cond_true{c:Code}(hc:Code.kind c=2)(hv:l.eval (y25 c)=some (.bool true))(hk:WR P w0 m0 N rd n (y6 c) Q l ds h):WR P w0 m0 N rd n c Q l ds h:=by
 cases c<;>first|(exact fun m act w he ha F=>wpIn_cond_true (zbc (z18e (a:=⟨l.tree,ds⟩) (fun t _=>ha.tmps t) _ (by rw[y11];exact hv))) (hk m act w he ha F))|(simp[Code.kind] at hc;done)|(rename_i d;cases d<;>simp[Code.kind] at hc)
theorem WR.cond_false{c:Code}(hc:Code.kind c=2)(hv:l.eval (y25 c)=some (.bool false))(hk:WR P w0 m0 N rd n (y4 c) Q l ds h):WR P w0 m0 N rd n c Q l ds h:=by
 cases c<;>first|(exact fun m act w he ha F=>wpIn_cond_false (zbc (z18e (a:=⟨l.tree,ds⟩) (fun t _=>ha.tmps t) _ (by rw[y11];exact hv))) (hk m act w he ha F))|(simp[Code.kind] at hc;done)|(rename_i d;cases d<;>simp[Code.kind] at hc)
theorem WR.block{c:Code}(hc:Code.kind c=3)(hk:WR P w0 m0 N rd n (y6 c) (Exit.inBlock (Code.num c) Q) l ds h):WR P w0 m0 N rd n c Q l ds h:=by
 cases c<;>first|(exact fun m act w he ha F=>wpIn_block (hk m act w he ha F))|(simp[Code.kind] at hc;done)|(rename_i d;cases d<;>simp[Code.kind] at hc)
theorem WR.exit{c:Code}(hc:Code.kind c=5)(hk:Go w0 m0 N (Q (.exit (Code.num c))) l ds h):WR P w0 m0 N rd n c Q l ds h:=by
 cases c<;>first|(exact fun m act w he ha F=>wpIn_exit (hk m act w he ha F))|(simp[Code.kind] at hc;done)|(rename_i d;cases d<;>simp[Code.kind] at hc)
theorem WR.ret{c:Code}(hc:Code.kind c=6)(hk:Go w0 m0 N (Q .ret) l ds h):WR P w0 m0 N rd n c Q l ds h:=by
 cases c<;>first|(exact fun m act w he ha F=>wpIn_ret (hk m act w he ha F))|(simp[Code.kind] at hc;done)|(rename_i d;cases d<;>simp[Code.kind] at hc)
theorem InLR.round{c:Code}{act:Act}{w:World}(hk:c.wpIn (FW rd) n P (Exit.then (InLR P rd c Q) Q) act w):InLR P rd c Q act w:=by
 intro b k cs hro;have hb:(FW rd).fn b.fn:=trivial;have hr:(FW rd).room (cs.length+1+n):=room_wide _;obtain⟨e1,a1,w1,hq,harr⟩:=hk b (.inLoop c::k) cs hro hb hr
 cases e1 with
 |normal=>
  obtain⟨e3,a3,w3,hq3,harr3⟩:=hq b k cs hro;exact⟨e3,a3,w3,hq3,.of_steps (StepsIn.trans harr (.one (fenced_calm hb hr rfl) stepR_inLoop)) harr3⟩
 |exit id=>exact⟨_,a1,w1,hq,.pass (x:=.inLoop c) rfl (fun _ _=>.inl (by simp)) harr⟩
 |goto l=>exact⟨_,a1,w1,hq,.pass (x:=.inLoop c) rfl (fun _ _=>.inl (by simp)) harr⟩
 |ret=>exact⟨_,a1,w1,hq,.pass (x:=.inLoop c) rfl (fun _ _=>.inl (by simp)) harr⟩
 |panic ch=>exact⟨_,a1,w1,hq,.pass (x:=.inLoop c) rfl (fun _ _=>.inl (by simp)) harr⟩
 |outgrown=>exact⟨_,a1,w1,hq,.pass (x:=.inLoop c) rfl (fun _ _=>.inl (by simp)) harr⟩
theorem WR.loop{c:Code}(hc:Code.kind c=4)(hk:Go w0 m0 N (InLR P rd (y6 c) Q) l ds h):WR P w0 m0 N rd n c Q l ds h:=by
 obtain⟨x,rfl⟩:=z3a8 hc;intro m act w he ha F b k cs hro hb hr;obtain⟨e,a',w',q,r⟩:=hk m act w he ha F b k cs hro;exact⟨e,a',w',q,.of_steps (.one (fenced_calm hb hr rfl) stepR_loop) r⟩
theorem Go.roundR{c:Code}(hk:WR P w0 m0 N rd n c (Exit.then (InLR P rd c Q) Q) l ds h):Go w0 m0 N (InLR P rd c Q) l ds h:=fun m act w he ha F=>InLR.round (n:=n) (hk m act w he ha F)
def z34d:z46:=fun _ _ _ _=>none
theorem z189:BothOK P w0 z34d:=⟨(fun _ _ _ _ _ h=>nomatch h),(fun _ _ _ _ _ h=>nomatch h)⟩
def isDefer(o:Oper):Bool:=match o.op with
 | .defer _=>true
 |_=>false
def z430(N:Nat)(ops:Array Oper)(i:Nat):Option (Option Nat):=match ops[i]? with
 |some o=>match z138 N o&& !isDefer o with
  |true=>some o.dst
  |false=>none
 |none=>none
theorem z2d0{ops:Array Oper}{i:Nat}{d:Option Nat}(hd:z430 N ops i=some d):∃o,ops[i]? =some o∧z138 N o=true∧(∀c,o.op≠ .defer c)∧o.dst=d:=by
 unfold z430 at hd
 split at hd
 ·rename_i o ho
  split at hd
  ·rename_i hk
   rw[Bool.and_eq_true] at hk;simp only[Option.some.injEq] at hd;refine⟨o,ho,hk.1,fun c e=>?_,hd⟩;have:=hk.2;unfold isDefer at this;rw[e] at this
   cases this
  ·cases hd
 ·cases hd
theorem z488(hc:BothOK P w0 both){ops:Array Oper}{o:Oper}{ol:List Oper}{a:AAct}{st:AStep}{m:Map}{act:Act}{H:AHeap}{w:World}(ha:RelAct m N a act)(F:Fits w0 m H w)(ho:z138 N o=true)(hnd:∀c,o.op≠ .defer c)(hst:z38a P both ops o a H=some st)(hgo:∀(a':AAct) (h':AHeap),st=.go a' h'→∀(m':Map) (act':Act) (w':World),Ext m m'→RelAct m' N a' act'→Fits w0 m' h' w'→wpListIn (FW rd) n P ops Q ol act' w')(hpn:∀(v:AV) (h':AHeap),st=.panic v h'→∀(m':Map) (w':World) (v':Value),Ext m m'→Fits w0 m' h' w'→Rel m' v v'→Q (.panic [{v:=v',recovered:=false}]) act w'):
  wpListIn (FW rd) n P ops Q (o::ol) act w:=by
 have hd':∀t,o.dst=some t→t<N:=by
  intro t ht;simp only[z138,ht] at ho;exact Nat.le_of_ble_eq_true ho
 rw[wpListIn];unfold z38a at hst
 split at hst
 ·rename_i hw
  rw[z16f (fun t _=>ha.tmps t) hw];simp only[if_true];cases hop:opA P a.eval o H with
  |none=>rw[hop] at hst;cases hst
  |some p=>
   obtain⟨nx,H1⟩:=p;rw[hop] at hst;refine⟨fun _ _=>trivial,?_⟩;rw[Oper.semAt_eq _ _ _ hnd];refine uponR_ok hc (z420 F o (fun x _ v hv=>z18e (fun t _=>ha.tmps t) v hv) hop) hst (fun a' h' e' m' w' v v' he F' hv ea=>?_) (fun v h' e' m' w' v' he F' hv=>?_)
   ·subst e' ea
    exact hgo _ _ rfl m' _ w' he ((ha.mono he.le).put1 hd' hv) F'
   ·subst e'
    exact hpn _ _ rfl m' w' v' he F' hv
 ·rename_i hw
  rw[z16f (fun t _=>ha.tmps t) hw];simp only[Bool.false_eq_true,if_false];simp only[z38,Option.some.injEq] at hst;subst hst;refine⟨fun _ _=>trivial,hgo _ _ rfl m _ w (Ext.refl m) (ha.put1 hd' (.tup .nil)) F⟩
 ·cases hst
theorem WR.region{c:Code}(hc:Code.kind c=7)(hk:WLR P w0 m0 N rd n (Code.ops c) 0 Q l ds h):WR P w0 m0 N rd n c Q l ds h:=by
 cases c with
 |region id ops d=>cases d with
  |false=>exact fun m act w he ha F=>wpIn_region_list (hk m act w he ha F)
  |true=>simp[Code.kind] at hc
 |_=>simp[Code.kind] at hc
theorem WLR.nil{ops:Array Oper}{i:Nat}(hi:Nat.beq ops.size i=true)(hk:Go w0 m0 N (Q .normal) l ds h):WLR P w0 m0 N rd n ops i Q l ds h:=by
 intro m act w he ha F
 have:ops.toList.drop i=[]:=by
  have:=Nat.eq_of_beq_eq_true hi
  simp[←this]
 rw[this];exact hk m act w he ha F
theorem WLR.step{ops:Array Oper}{i:Nat}{o:Oper}(ho:ops[i]? =some o)(hd:z138 N o=true)(hnd:∀c,o.op≠ .defer c)(hc:BothOK P w0 both){d:Option Nat}{v:AV}{ds':DefT}(hst:z38a P both ops o ⟨l.tree,ds⟩ h=some (.go ⟨(l.put d v).tree,ds'⟩ h'))(hk:WLR P w0 m0 N rd n ops (i+1) Q (l.put d v) ds' h'):WLR P w0 m0 N rd n ops i Q l ds h:=by
 intro m act w he ha F
 have hl:i<ops.toList.length:=by
  rcases Array.getElem?_eq_some_iff.1 ho with⟨h1,_⟩
  simpa using h1
 have hdrop:ops.toList.drop i=o::ops.toList.drop (i+1):=by
  rw[List.drop_eq_getElem_cons hl]
  congr 1
  rcases Array.getElem?_eq_some_iff.1 ho with⟨h1,h2⟩
  simpa using h2
 rw[hdrop];refine z488 hc ha F hd hnd hst (fun a' h2 e m' act' w' he' ha' F'=>?_) (fun v h2 e=>by cases e);simp only[AStep.go.injEq] at e;obtain⟨rfl,rfl⟩:=e;exact hk m' act' w' (he.trans he') ha' F'
theorem WLR.val{ops:Array Oper}{i:Nat}{d:Option Nat}{v:AV}(hd:z430 N ops i=some d)(hw:z24 ops l.get i=some true)(hop:ze0 P l.eval ops i h=some (.val v,h'))(hk:WLR P w0 m0 N rd n ops (i+1) Q (l.put d v) ds h'):WLR P w0 m0 N rd n ops i Q l ds h:=by
 obtain⟨o,ho,hok,hnd,rfl⟩:=z2d0 hd;refine WLR.step (v:=v) (d:=o.dst) (ds':=ds) ho hok hnd z189 ?_ hk;have hw:z3e ops l.get o.guard=some true:=by simpa [z24,ho] using hw
 have hop:opA P l.eval o h=some (.val v,h'):=by simpa [ze0,ho] using hop
 simp only[z38a,y10,hw,y11,hop,z180,z38,y14]
theorem WLR.eff{ops:Array Oper}{i:Nat}(hd:z430 N ops i=some none)(hw:z24 ops l.get i=some true)(hop:ze0 P l.eval ops i h=some (.skip,h'))(hk:WLR P w0 m0 N rd n ops (i+1) Q l ds h'):WLR P w0 m0 N rd n ops i Q l ds h:=by
 obtain⟨o,ho,hok,hnd,hdn⟩:=z2d0 hd;refine WLR.step (v:=.tup []) (d:=none) (ds':=ds) ho hok hnd z189 ?_ hk;have hw:z3e ops l.get o.guard=some true:=by simpa [z24,ho] using hw
 have hop:opA P l.eval o h=some (.skip,h'):=by simpa [ze0,ho] using hop
 simp only[z38a,y10,hw,y11,hop,z180,z38,y14,hdn]
theorem WLR.not{ops:Array Oper}{i:Nat}{d:Option Nat}(hd:z430 N ops i=some d)(hw:z24 ops l.get i=some false)(hk:WLR P w0 m0 N rd n ops (i+1) Q (l.put d (.tup [])) ds h):WLR P w0 m0 N rd n ops i Q l ds h:=by
 obtain⟨o,ho,hok,hnd,rfl⟩:=z2d0 hd;refine WLR.step (v:=.tup []) (d:=o.dst) (ds':=ds) ho hok hnd z189 ?_ hk;have hw:z3e ops l.get o.guard=some false:=by simpa [z24,ho] using hw
 simp only[z38a,y10,hw,z38,y14]
theorem y41(hc:BothOK P w0 both){ops:Array Oper}{i:Nat}{d:Option Nat}{f:FuncId}{args:List AV}{v:AV}{h1:AHeap}(hd:z430 N ops i=some d)(hw:z24 ops l.get i=some true)(hop:ze0 P l.eval ops i h=some (.call f args,h1))(hcall:both false f args h1=some (.ret v,h'))(hk:WLR P w0 m0 N rd n ops (i+1) Q (l.put d v) ds h'):WLR P w0 m0 N rd n ops i Q l ds h:=by
 obtain⟨o,ho,hok,hnd,rfl⟩:=z2d0 hd;refine WLR.step (v:=v) (d:=o.dst) (ds':=ds) ho hok hnd hc ?_ hk;have hw:z3e ops l.get o.guard=some true:=by simpa [z24,ho] using hw
 have hop:opA P l.eval o h=some (.call f args,h1):=by simpa [ze0,ho] using hop
 simp only[z38a,y10,hw,y11,hop,z180,hcall,z14d,z38,y14]
def noRnd:Nat→List AV→AHeap→Option (ARes×AHeap):=fun _ _ _=>none
def z4ae(call:z11)(rnd:Nat→List AV→AHeap→Option (ARes×AHeap)):z46:=fun k f args h=>match k with
 |false=>call f args h
 |true=>rnd f args h
theorem z3c2{call:z11}(hc:z109 P w0 call):BothOK P w0 (z4ae call noRnd):=⟨hc,(fun _ _ _ _ _ h=>nomatch h)⟩
theorem WLR.call{call:z11}(hc:z109 P w0 call){ops:Array Oper}{i:Nat}{d:Option Nat}{f:FuncId}{args:List AV}{v:AV}{h1:AHeap}(hd:z430 N ops i=some d)(hw:z24 ops l.get i=some true)(hop:ze0 P l.eval ops i h=some (.call f args,h1))(hcall:call f args h1=some (.ret v,h'))(hk:WLR P w0 m0 N rd n ops (i+1) Q (l.put d v) ds h'):WLR P w0 m0 N rd n ops i Q l ds h:=y41 (z3c2 hc) hd hw hop hcall hk
theorem WLR.round(hc:BothOK P w0 both){ops:Array Oper}{i:Nat}{d:Option Nat}{b:Nat}{args:List AV}{v:AV}{h1:AHeap}(hd:z430 N ops i=some d)(hw:z24 ops l.get i=some true)(hop:ze0 P l.eval ops i h=some (.round b args,h1))(hcall:both true b args h1=some (.ret v,h'))(hk:WLR P w0 m0 N rd n ops (i+1) Q (l.put d v) ds h'):WLR P w0 m0 N rd n ops i Q l ds h:=by
 obtain⟨o,ho,hok,hnd,rfl⟩:=z2d0 hd;refine WLR.step (v:=v) (d:=o.dst) (ds':=ds) ho hok hnd hc ?_ hk;have hw:z3e ops l.get o.guard=some true:=by simpa [z24,ho] using hw
 have hop:opA P l.eval o h=some (.round b args,h1):=by simpa [ze0,ho] using hop
 simp only[z38a,y10,hw,y11,hop,z180,hcall,z14d,z38,y14]
theorem WR.range(hc:BothOK P w0 both){f:Operand}{ps:Array Tmp}{x y:Code}{e:AExit}{l':Fr}{ds':DefT}(hr:z195 P both none N (l.eval f) ps x y ⟨l.tree,ds⟩ h=some (e,⟨l'.tree,ds'⟩,h'))(hq:∀(m:Map) (act:Act) (w:World) (e':Exit),Ext m0 m→RelExit m e e'→RelAct m N ⟨l'.tree,ds'⟩ act→Fits w0 m h' w→Q e' act w):WR P w0 m0 N none n (.rangeFunc f ps x y) Q l ds h:=by
 intro m act w he ha F;have hev:(⟨l.tree,ds⟩:AAct).eval f=l.eval f:=by rw[y11]
 refine wpIn_mono (z49d (rb:=none) (f:=f) hc ⟨l.tree,ds⟩ h e _ h' (by
  show z195 P both none N ((⟨l.tree,ds⟩:AAct).eval f) ps x y ⟨l.tree,ds⟩ h=_;rw[hev];exact hr) none n m act w trivial ha F) ?_
 rintro e' act2 w2 ⟨m2,hx,ha2,F2,hex⟩
 exact hq m2 act2 w2 e' (he.trans hx) hex ha2 F2
end
def BothAll(P:Program)(both:z46):Prop:=∀w0,BothOK P w0 both
theorem BothAll.says{P:Program}{both:z46}(h:BothAll P both):SaysAll P (both false):=SaysAll.of fun w0=>(h w0).call
theorem BothAll.none{P:Program}:BothAll P z34d:=fun _=>z189
theorem z4ad{P:Program}{call:z11}{rnd:Nat→List AV→AHeap→Option (ARes×AHeap)}(hc:SaysAll P call)(hr:∀w0,z2e2 P w0 rnd):BothAll P (z4ae call rnd):=fun w0=>⟨hc.ok w0,hr w0⟩
def z412(cf:z46→z11)(rf:z46→Nat→List AV→AHeap→Option (ARes×AHeap)):Nat→z46
 |0=>z34d
 |d+1=>z4ae (cf (z412 cf rf d)) (rf (z412 cf rf d))
theorem z29e{P:Program}{cf:z46→z11}{rf:z46→Nat→List AV→AHeap→Option (ARes×AHeap)}(hc:∀both,BothAll P both→SaysAll P (cf both))(hr:∀both,BothAll P both→∀w0,z2e2 P w0 (rf both)):∀d,BothAll P (z412 cf rf d)
 |0=>BothAll.none
 |d+1=>z4ad (hc _ (z29e hc hr d)) (hr _ (z29e hc hr d))
section
variable {P:Program}{w0:Base}{m0:Map}{N:Nat}{rd:Option Nat}{n:Nat}{l l':Fr}{ds:DefT}{h h':AHeap}{Q:Exit→Act→World→Prop}{K:Act→World→Prop}{both:z46}{r:ARes}
abbrev FinM(P:Program)(fn:Func)(w0:Base)(m0:Map)(r:ARes)(h':AHeap):Exit→Act→World→Prop:=bodyPostM Fence.wide 0 P fn (RetOK w0 m0 h' r)
theorem Go.leaveM{fn:Func}(hr:z221 P fn ⟨l.tree,ds⟩ ds h=some (r,h')):Go w0 m0 N (FinM P fn w0 m0 r h' .ret) l ds h:=fun m _ w he ha F=>
 LeavesInM.mono (fun _ _ hh=>hh.ext he) _ _ _ (z454 _ _ hr m _ ha.defers) (z4af _ h hr m _ w ha.tmps ha.defers F)
theorem z41a{f:FuncId}{fn:Func}{args:List AV}(hf:P.funcs[f]? =some fn){c:Code}(hb:fn.body=some c)(hlen:Nat.ble args.length fn.ntmps=true)(hw:∀w0 m0,WR P w0 m0 fn.ntmps none 0 c (FinM P fn w0 m0 r h') (z1d2 0 args) [] h):Says P f args h r h':=by
 intro w0 m w args' ha F;have hlen:=Nat.le_of_ble_eq_true hlen;have hl:=ha.length
 have hra : RelAct m fn.ntmps ⟨(z1d2 0 args).tree, []⟩ { tmps := (⟨args'⟩ : Array Value) ++ Array.replicate (fn.ntmps - (⟨args'⟩ : Array Value).size) undef, defers := [] } := {
  size := by simp; omega
  tmps := fun t v hv => by
   have hv : (z1d2 0 args).tree.get t = some v := hv;rw [Fr.get_tree] at hv
   obtain ⟨_, hv⟩ := z26d _ _ _ _ hv
   rw [Nat.sub_zero] at hv
   obtain ⟨y, hy, hr⟩ := ha.get t v hv
   have ht : t < args'.length := (List.getElem?_eq_some_iff.1 hy).1;refine ⟨y, ?_, hr⟩
   simp only
   rw [Array.getElem?_append_left (by simpa using ht)]
   simpa using hy
  defers := .nil }
 exact callsIn_wide.1 (callsIn_of_wp_marks (n:=0) hf hb trivial (hw w0 m m _ w (Ext.refl m) hra F))
theorem y3f{m:Map}{act:Act}{t:T AV}(hs:∀i v,l.get i=some v→t.get i=some v)(hr:RelAct m N ⟨t,ds⟩ act):RelAct m N ⟨l.tree,ds⟩ act where
 size:=hr.size
 tmps i:=fun v hv=>hr.tmps i v (by
  have hv:l.tree.get i=some v:=hv;rw[Fr.get_tree] at hv;exact hs i v hv)
 defers:=hr.defers
theorem z329{c:Code}{f:AAct→AHeap→z8b}(hf:∀(t:T AV) (ds:DefT) (h:AHeap) (e:AExit) (a':AAct) (h':AHeap),f ⟨t,ds⟩ h=some (e,a',h')→∃l:Fr,(∀i v,l.get i=some v→t.get i=some v)∧∀rd n m0,WR P w0 m0 N rd n c (fun e' act w=>z478 w0 m0 N e a' h' e' act w) l ds h)(rb:Option Nat):z1fa P w0 N rb f c:=by
 intro a h e a' h' hr rd n m act w hrb ha F;obtain⟨l,hl,hk⟩:=hf a.tmps a.defers h e a' h' hr;exact hk rd n m m act w (Ext.refl m) (y3f hl ha) F
end
end
noncomputable section
open Go.RowKit
section
variable {P:Program}{w0:Base}{m0:Map}{N:Nat}{rd:Option Nat}{nR:Nat}{l l':Fr}{ds:DefT}{h h':AHeap}{Q:Exit→Act→World→Prop}{K:Act→World→Prop}{Y:z8e}{ops:Array Oper}{i:Nat}
theorem WR.seqK{c:Code}(hc:Code.kind c=1)(hk:∀K:Exit→Act→World→Prop,(∀{ds:DefT} {l:Fr} {h:AHeap},WR P w0 m0 N rd nR (y4 c) Q l ds h→Go w0 m0 N (K .normal) l ds h)→
  (∀{id:Nat} {ds:DefT} {l:Fr} {h:AHeap},Go w0 m0 N (Q (.exit id)) l ds h→Go w0 m0 N (K (.exit id)) l ds h)→(∀{ds:DefT} {l:Fr} {h:AHeap},Go w0 m0 N (Q .ret) l ds h→Go w0 m0 N (K .ret) l ds h)→
  (∀{ds:DefT} {l:Fr} {v:AV} {h:AHeap},Pan w0 m0 N Q l ds v h→Pan w0 m0 N K l ds v h)→WR P w0 m0 N rd nR (y6 c) K l ds h):WR P w0 m0 N rd nR c Q l ds h:=
 WR.seq hc (hk _ (fun h=>h) (fun h=>h) (fun h=>h) (fun h=>h))
theorem WR.blockK{c:Code}(hc:Code.kind c=3)(hk:∀K:Exit→Act→World→Prop,(∀{ds:DefT} {l:Fr} {h:AHeap},Go w0 m0 N (Q .normal) l ds h→Go w0 m0 N (K .normal) l ds h)→
  (∀{id:Nat} {ds:DefT} {l:Fr} {h:AHeap},Nat.beq id (Code.num c)=true→Go w0 m0 N (Q .normal) l ds h→Go w0 m0 N (K (.exit id)) l ds h)→
  (∀{id:Nat} {ds:DefT} {l:Fr} {h:AHeap},Nat.beq id (Code.num c)=false→Go w0 m0 N (Q (.exit id)) l ds h→Go w0 m0 N (K (.exit id)) l ds h)→(∀{ds:DefT} {l:Fr} {h:AHeap},Go w0 m0 N (Q .ret) l ds h→Go w0 m0 N (K .ret) l ds h)→
  (∀{ds:DefT} {l:Fr} {v:AV} {h:AHeap},Pan w0 m0 N Q l ds v h→Pan w0 m0 N K l ds v h)→WR P w0 m0 N rd nR (y6 c) K l ds h):WR P w0 m0 N rd nR c Q l ds h:=
 WR.block hc (hk _ (fun h=>h) (fun e h=>Go.bS e h) (fun e h=>Go.bO e h) (fun h=>h) (fun h=>h))
theorem WR.loopK{c:Code}(hc:Code.kind c=4)(hk:∀(I:Act→World→Prop) (K:Exit→Act→World→Prop),(∀{ds:DefT} {l:Fr} {h:AHeap},WR P w0 m0 N rd nR (y6 c) K l ds h→Go w0 m0 N I l ds h)→
  (∀{ds:DefT} {l:Fr} {h:AHeap},Go w0 m0 N I l ds h→Go w0 m0 N (K .normal) l ds h)→(∀{id:Nat} {ds:DefT} {l:Fr} {h:AHeap},Go w0 m0 N (Q (.exit id)) l ds h→Go w0 m0 N (K (.exit id)) l ds h)→
  (∀{ds:DefT} {l:Fr} {h:AHeap},Go w0 m0 N (Q .ret) l ds h→Go w0 m0 N (K .ret) l ds h)→(∀{ds:DefT} {l:Fr} {v:AV} {h:AHeap},Pan w0 m0 N Q l ds v h→Pan w0 m0 N K l ds v h)→
  Go w0 m0 N I l ds h):WR P w0 m0 N rd nR c Q l ds h:=
 WR.loop hc (hk _ _ (fun h=>Go.roundR h) (fun h=>h) (fun h=>h) (fun h=>h) (fun h=>h))
end
section
variable {P:Program}{w0:Base}{m0:Map}{N:Nat}{rd:Option Nat}{nR:Nat}{l l':Fr}{ds:DefT}{h:AHeap}{Q:Exit→Act→World→Prop}{K:Act→World→Prop}{Y:z8e}{ops:Array Oper}{i:Nat}
theorem WLR.a(d:Option Nat)(v:AV)(h':AHeap)(hk:WLR P w0 m0 N rd nR ops (i+1) Q (l.put d v) ds h')(h1:z430 N ops i=some d:=by kernel_rfl)(h2:z24 ops l.get i=some true:=by kernel_rfl)(h3:ze0 P l.eval ops i h=some (.val v,h'):=by kernel_rfl):WLR P w0 m0 N rd nR ops i Q l ds h:=WLR.val h1 h2 h3 hk
theorem WLR.b(d:Option Nat)(v:AV)(h':AHeap)(x:Y=some (.val v,h'))(hk:WLR P w0 m0 N rd nR ops (i+1) Q (l.put d v) ds h')(h1:z430 N ops i=some d:=by kernel_rfl)(h2:z24 ops l.get i=some true:=by kernel_rfl)(h3:ze0 P l.eval ops i h=Y:=by kernel_rfl):WLR P w0 m0 N rd nR ops i Q l ds h:=WLR.val h1 h2 (h3.trans x) hk
theorem WLR.e(h':AHeap)(x:Y=some (.skip,h'))(hk:WLR P w0 m0 N rd nR ops (i+1) Q l ds h')(h1:z430 N ops i=some none:=by kernel_rfl)(h2:z24 ops l.get i=some true:=by kernel_rfl)(h3:ze0 P l.eval ops i h=Y:=by kernel_rfl):WLR P w0 m0 N rd nR ops i Q l ds h:=WLR.eff h1 h2 (h3.trans x) hk
theorem WLR.o(d:Option Nat)(hk:WLR P w0 m0 N rd nR ops (i+1) Q (l.put d (.tup [])) ds h)(h1:z430 N ops i=some d:=by kernel_rfl)(h2:z24 ops l.get i=some false:=by kernel_rfl):WLR P w0 m0 N rd nR ops i Q l ds h:=WLR.not h1 h2 hk
theorem WLR.c{call:z11}(hc:z109 P w0 call)(d:Option Nat){f:FuncId}{args:List AV}{v:AV}{h1 h':AHeap}(hcall:call f args h1=some (.ret v,h'))(hk:WLR P w0 m0 N rd nR ops (i+1) Q (l.put d v) ds h')(h2:z430 N ops i=some d:=by kernel_rfl)(h3:z24 ops l.get i=some true:=by kernel_rfl)(h4:ze0 P l.eval ops i h=some (.call f args,h1):=by kernel_rfl):WLR P w0 m0 N rd nR ops i Q l ds h:=WLR.call hc h2 h3 h4 hcall hk
theorem WLR.n(hk:Go w0 m0 N (Q .normal) l ds h)(hi:Nat.beq ops.size i=true:=by kernel_rfl):WLR P w0 m0 N rd nR ops i Q l ds h:=WLR.nil hi hk
theorem WR.r{c:Code}(hk:WLR P w0 m0 N rd nR (Code.ops c) 0 Q l ds h)(hc:Code.kind c=7:=by kernel_rfl):WR P w0 m0 N rd nR c Q l ds h:=WR.region hc hk
theorem WR.s{c:Code}(hk:∀K:Exit→Act→World→Prop,(∀{ds:DefT} {l:Fr} {h:AHeap},WR P w0 m0 N rd nR (y4 c) Q l ds h→Go w0 m0 N (K .normal) l ds h)→
  (∀{id:Nat} {ds:DefT} {l:Fr} {h:AHeap},Go w0 m0 N (Q (.exit id)) l ds h→Go w0 m0 N (K (.exit id)) l ds h)→(∀{ds:DefT} {l:Fr} {h:AHeap},Go w0 m0 N (Q .ret) l ds h→Go w0 m0 N (K .ret) l ds h)→
  (∀{ds:DefT} {l:Fr} {v:AV} {h:AHeap},Pan w0 m0 N Q l ds v h→Pan w0 m0 N K l ds v h)→WR P w0 m0 N rd nR (y6 c) K l ds h)(hc:Code.kind c=1:=by kernel_rfl):WR P w0 m0 N rd nR c Q l ds h:=WR.seqK hc hk
theorem WR.t{c:Code}(hk:WR P w0 m0 N rd nR (y6 c) Q l ds h)(hc:Code.kind c=2:=by kernel_rfl)(hv:l.eval (y25 c)=some (.bool true):=by kernel_rfl):WR P w0 m0 N rd nR c Q l ds h:=WR.cond_true hc hv hk
theorem WR.f{c:Code}(hk:WR P w0 m0 N rd nR (y4 c) Q l ds h)(hc:Code.kind c=2:=by kernel_rfl)(hv:l.eval (y25 c)=some (.bool false):=by kernel_rfl):WR P w0 m0 N rd nR c Q l ds h:=WR.cond_false hc hv hk
end
end
noncomputable section
open Go.RowKit
def isRng:Code→Bool
 | .rangeFunc _ _ _ _=>true
 |_=>false
def Code.rgo:Code→Operand
 | .rangeFunc f _ _ _=>f
 |_=>.tmp 0
def y1b:Code→Array Tmp
 | .rangeFunc _ ps _ _=>ps
 |_=> #[]
def y20:Code→Code
 | .rangeFunc _ _ x _=>x
 |_=>.skip
def y1d:Code→Code
 | .rangeFunc _ _ _ y=>y
 |_=>.skip
abbrev dmark(D:Nat):FuncId×List AV×List AV:=(0,[],[.mrk D])
def rngX(P:Program)(both:z46)(N:Nat)(v:AV)(c:Code)(t:T AV)(ds:DefT)(h:AHeap):z8b:=z195 P both none N (some v) (y1b c) (y20 c) (y1d c) ⟨t,ds⟩ h
def rngK(x:z8b)(kn kr:AHeap→R)(ke:Nat→AHeap→R):R:=match x with
 |some (.normal,_,h)=>kn h
 |some (.ret,_,h)=>kr h
 |some (.exit id,_,h)=>ke id h
 |_=>none
theorem z492{P:Program}{both:z46}{N:Nat}{f:Option AV}{ps:Array Tmp}{x y:Code}{t:T AV}{ds:DefT}{h h':AHeap}{e:AExit}{a':AAct}(hr:z195 P both none N f ps x y ⟨t,ds⟩ h=some (e,a',h')):a'=⟨t,dmark h.next::ds⟩:=by
 unfold z195 at hr
 split at hr
 ·split at hr
  ·simp only [z321] at hr
   unfold endR at hr
   split at hr
   ·split at hr
    ·split at hr
     ·cases hr
     ·split at hr<;> ·simp only[Option.some.injEq,Prod.mk.injEq] at hr;exact hr.2.1.symm
    ·cases hr
   ·cases hr
  ·cases hr
 ·cases hr
section
variable {P:Program}{w0:Base}{m0:Map}{N:Nat}{n:Nat}{l l':Fr}{ds:DefT}{h:AHeap}{Q:Exit→Act→World→Prop}{both:z46}{r:ARes×AHeap}{kn kr:AHeap→R}{ke:Nat→AHeap→R}{v:AV}
theorem WR.rng(hc:BothAll P both){c:Code}(z:rngK (rngX P both N v c l.tree ds h) kn kr ke=some r)(hn:∀h',kn h'=some r→Go w0 m0 N (Q .normal) l (dmark h.next::ds) h')(hr:∀h',kr h'=some r→Go w0 m0 N (Q .ret) l (dmark h.next::ds) h')(he:∀id h',ke id h'=some r→Go w0 m0 N (Q (.exit id)) l (dmark h.next::ds) h')(hk:isRng c=true:=by kernel_rfl)(hv:l.eval (Code.rgo c)=some v:=by kernel_rfl):WR P w0 m0 N none n c Q l ds h:=by
 cases c with
 |rangeFunc f ps x y=>
  have hv:l.eval f=some v:=hv;unfold rngK rngX at z;have hx:z195 P both none N (some v) (y1b (.rangeFunc f ps x y)) (y20 (.rangeFunc f ps x y)) (y1d (.rangeFunc f ps x y)) ⟨l.tree,ds⟩ h=z195 P both none N (l.eval f) ps x y ⟨l.tree,ds⟩ h:=by rw[hv];rfl
  rw[hx] at z;cases hr2:z195 P both none N (l.eval f) ps x y ⟨l.tree,ds⟩ h with
  |none=>rw[hr2] at z;cases z
  |some p=>
   obtain⟨e,a',h'⟩:=p;have ha:=z492 hr2;subst ha;rw[hr2] at z;refine WR.range (l':=l) (hc w0) hr2 fun m act w e' hx hex ha F=>?_;cases hex with
   |normal=>exact hn h' z m act w hx ha F
   |ret=>exact hr h' z m act w hx ha F
   |exit id=>exact he id h' z m act w hx ha F
   |goto l=>cases z
   |panic hv=>cases z
 |_=>cases hk
def z274:DefT→AHeap→Option AHeap
 |[],h=>some h
 |(0,[],[.mrk D])::ds,h=>match h.get D with
  |some (.obj .dfr)=>z274 ds (h.put D (.obj .shut))
  |_=>none
 |_,_=>none
def z222(ds:DefT)(h:AHeap)(k:AHeap→R):R:=match z274 ds h with
 |some h'=>k h'
 |none=>none
theorem z425{fn:Func}{a:AAct}:∀(ds:DefT) (h h':AHeap),z274 ds h=some h'→z221 P fn a ds h=z393 h' (z14e P a h' fn.results.toList)
 |[],h,h',e=>by
  simp only[z274,Option.some.injEq] at e;subst e;rfl
 |d::ds,h,h',e=>by
  unfold z274 at e
  split at e
  ·rename_i e'
   cases e'
  ·rename_i D ds2 _ e'
   simp only[List.cons.injEq] at e';obtain⟨rfl,rfl⟩:=e'
   split at e
   ·rename_i hb
    have ih:=z425 (fn:=fn) (a:=a) _ _ _ e;simp only[z221,hb];exact ih
   ·cases e
  ·cases e
theorem y3d{fn:Func}{rR:ARes}{hR:AHeap}{k:AHeap→R}(z:z222 ds h k=some (rR,hR))(hk:∀h',k h'=some (rR,hR)→z393 h' (z110 P l.get h' fn.results.toList)=some (rR,hR)):Go w0 m0 N (FinM P fn w0 m0 rR hR .ret) l ds h:=by
 unfold z222 at z
 split at z
 ·rename_i h' hm
  refine Go.leaveM ?_;rw[z425 _ _ _ hm];have:=hk h' z;rw[←z339];show z393 h' (z110 P l.tree.get h' _)=_;rw[y10];exact this
 ·cases z
end
theorem z495{P:Program}{g:Nat→Option AV}{h:AHeap}{fn:Func}{rs:List ResultVar}{vs:List AV}{v:AV}(hrs:fn.results.toList=rs)(hv:z110 P g h rs=some vs)(hr:z393 h (some vs)=some (.ret v,h)):z393 h (z110 P g h fn.results.toList)=some (.ret v,h):=by
 rw[hrs,hv];exact hr
theorem ifB_id{id k:Nat}{a:R}{r:ARes×AHeap}(z:ifB (Nat.beq id k) a none=some r):id=k∧a=some r:=by
 cases hb:Nat.beq id k with
 |true=>rw[hb] at z;exact⟨Nat.eq_of_beq_eq_true hb,z⟩
 |false=>rw[hb] at z;cases z
def dynB(P:Program)(both:z46)(f:AV)(args:List AV)(h:AHeap):R:=match z2ff P h args (some f) with
 |some (.call g xs,h1)=>both false g xs h1
 |some (.round b xs,h1)=>both true b xs h1
 |some (.val v,h1)=>some (.ret v,h1)
 |_=>none
section
variable {P:Program}{w0:Base}{m0:Map}{N:Nat}{rd:Option Nat}{n:Nat}{l:Fr}{ds:DefT}{h h':AHeap}{Q:Exit→Act→World→Prop}{both:z46}
theorem WLR.dyn(hc:BothAll P both){ops:Array Oper}{i:Nat}{d:Option Nat}{f v:AV}{args:List AV}(hcall:dynB P both f args h=some (.ret v,h'))(hk:WLR P w0 m0 N rd n ops (i+1) Q (l.put d v) ds h')(hd:z430 N ops i=some d:=by kernel_rfl)(hw:z24 ops l.get i=some true:=by kernel_rfl)(hop:ze0 P l.eval ops i h=z2ff P h args (some f):=by kernel_rfl):WLR P w0 m0 N rd n ops i Q l ds h:=by
 unfold dynB at hcall
 split at hcall
 ·rename_i g xs h1 e
  exact y41 (hc w0) hd hw (hop.trans e) hcall hk
 ·rename_i b xs h1 e
  exact WLR.round (hc w0) hd hw (hop.trans e) hcall hk
 ·rename_i v1 h1 e
  cases hcall;exact WLR.val hd hw (hop.trans e) hk
 ·cases hcall
end
def decE:ARes→AExit
 | .ret (.int _ z)=>match z with
  |0=>.normal
  |1=>.ret
  |z=>.exit (z - 2).toNat
 |_=>.normal
def tupFr(ts:List Nat):ARes→Fr
 | .ret (.tup vs)=>ts.zip vs
 |_=>[]
section
variable {P:Program}{w0:Base}{m0:Map}{N:Nat}{l l':Fr}{ds:DefT}{h:AHeap}
theorem y44(hs:l.sub l'):Go w0 m0 N (z478 w0 m0 N .normal ⟨l'.tree,ds⟩ h .normal) l ds h:=fun m _ _ he ha F=>⟨m,he,ha.weaken hs,F,.normal⟩
theorem Go.postE{id:Nat}:Go w0 m0 N (z478 w0 m0 N (.exit id) ⟨Fr.tree [],ds⟩ h (.exit id)) l ds h:=fun m _ _ he ha F=>⟨m,he,ha.weaken (yf _),F,.exit id⟩
end
section
variable {P:Program}{both:z46}{N:Nat}{c:Code}{t:T AV}{ds:DefT}{h h2:AHeap}{kn kr:AHeap→R}{ke:Nat→AHeap→R}{Q:ARes→AHeap→Prop}{g:FuncId}{first cap:List AV}{v:AV}{q:ALoop}
def z475(N:Nat)(c:Code)(t:T AV)(h:AHeap):AHeap:=(h.new (.obj .dfr)).new (.obj (.loop ⟨.ready,.none,t,N,y1b c,y20 c,y1d c,h.next⟩))
theorem z3dc(hb:z117 P g=true)(e:both false g (first++[.yld (h.next+1)]++cap) (z475 N c t h)=some (.ret v,h2))(hq:h2.get (h.next+1)=some (.obj (.loop q)))(hs:q.st≠ .busy):
  rngX P both N (.fn g first cap) c t ds h=(match q.pend with
   | .none=>some (.normal,⟨t,dmark h.next::ds⟩,h2.put (h.next+1) (.obj (.loop {q with st:=.exhausted})))
   | .ret=>some (.ret,⟨t,dmark h.next::ds⟩,h2.put (h.next+1) (.obj (.loop {q with st:=.exhausted})))
   | .exit id=>some (.exit id,⟨t,dmark h.next::ds⟩,h2.put (h.next+1) (.obj (.loop {q with st:=.exhausted})))):=by
 unfold rngX z195;simp only[hb,z321];unfold z475 at e;rw[e];unfold endR;simp only[hq];cases hst:q.st with
 |busy=>exact absurd hst hs
 |_=>rfl
theorem Wp.rngN(hb:z117 P g=true)(e:both false g (first++[.yld (h.next+1)]++cap) (z475 N c t h)=some (.ret v,h2))(hq:h2.get (h.next+1)=some (.obj (.loop q)))(hs:q.st≠ .busy)(hp:q.pend=.none)(hk:Wp (kn (h2.put (h.next+1) (.obj (.loop {q with st:=.exhausted})))) Q):Wp (rngK (rngX P both N (.fn g first cap) c t ds h) kn kr ke) Q:=by
 rw[z3dc hb e hq hs];rw[hp] at hk ⊢;exact hk
theorem Wp.rngR(hb:z117 P g=true)(e:both false g (first++[.yld (h.next+1)]++cap) (z475 N c t h)=some (.ret v,h2))(hq:h2.get (h.next+1)=some (.obj (.loop q)))(hs:q.st≠ .busy)(hp:q.pend=.ret)(hk:Wp (kr (h2.put (h.next+1) (.obj (.loop {q with st:=.exhausted})))) Q):Wp (rngK (rngX P both N (.fn g first cap) c t ds h) kn kr ke) Q:=by
 rw[z3dc hb e hq hs];rw[hp] at hk ⊢;exact hk
theorem Wp.rngE{id:Nat}(hb:z117 P g=true)(e:both false g (first++[.yld (h.next+1)]++cap) (z475 N c t h)=some (.ret v,h2))(hq:h2.get (h.next+1)=some (.obj (.loop q)))(hs:q.st≠ .busy)(hp:q.pend=.exit id)(hk:Wp (ke id (h2.put (h.next+1) (.obj (.loop {q with st:=.exhausted})))) Q):Wp (rngK (rngX P both N (.fn g first cap) c t ds h) kn kr ke) Q:=by
 rw[z3dc hb e hq hs];rw[hp] at hk ⊢;exact hk
end
end
noncomputable section
open Go.RowKit
structure Site where
 N:Nat
 code:Code
 run:z46→AAct→AHeap→z8b
open Classical in
def Site.ok(P:Program)(s:Site):Prop:=∀both,BothAll P both→∀w0 rb,z1fa P w0 s.N rb (s.run both) s.code
open Classical in
def decA(ts:List Nat)(ds:DefT):R→z8b
 |some (r,h)=>some (.normal,⟨Fr.tree (tupFr ts r),ds⟩,h)
 |none=>none
def decB(ds:DefT):R→z8b
 |some (r,h)=>some (decE r,⟨Fr.tree [],ds⟩,h)
 |none=>none
theorem decA_some{ts:List Nat}{ds:DefT}{x:R}{e:AExit}{a':AAct}{h':AHeap}(z:decA ts ds x=some (e,a',h')):∃r,x=some (r,h')∧e=.normal∧a'=⟨Fr.tree (tupFr ts r),ds⟩:=by
 cases x with
 |none=>cases z
 |some p=>
  obtain⟨r,h⟩:=p;simp only[decA,Option.some.injEq,Prod.mk.injEq] at z;obtain⟨rfl,rfl,rfl⟩:=z;exact⟨r,rfl,rfl,rfl⟩
theorem decB_some{ds:DefT}{x:R}{e:AExit}{a':AAct}{h':AHeap}(z:decB ds x=some (e,a',h')):∃r,x=some (r,h')∧e=decE r∧a'=⟨Fr.tree [],ds⟩:=by
 cases x with
 |none=>cases z
 |some p=>
  obtain⟨r,h⟩:=p;simp only[decB,Option.some.injEq,Prod.mk.injEq] at z;obtain⟨rfl,rfl,rfl⟩:=z;exact⟨r,rfl,rfl,rfl⟩
end
end Go.Proofs.Yteecmjmglmpbpaa.Abs
