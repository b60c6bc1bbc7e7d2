/- What snapPlays_proved stands on, part 7 of 10. -/
import Derived.Test.YtpnccmlajhhpdaaSP6
namespace Go.Proofs.Ytpnccmlajhhpdaa
open Go.RowKit Abs
noncomputable def z15d(_:z10)(_:Nat)(h:AHeap):R:=outK (zd9 h 68 (some (.agg ([.bool false,.str 0 0,.nsl,.bool false,.str 0 0,.nsl,.bool false,.str 0 0,.nsl,.bool false,.str 0 0,.nsl,.bool false,.str 0 0,.nsl,.bool false,.str 0 0,.nsl,.bool false,.str 0 0,.nsl,.bool false,.str 0 0,.nsl,.bool false,.str 0 0,.nsl,.bool false,.str 0 0,.nsl,.bool false,.str 0 0,.nsl,.bool false,.str 0 0,.nsl,.bool false,.str 0 0,.nsl,.bool false,.str 0 0,.nsl,.bool false,.str 0 0,.nsl,.bool false,.str 0 0,.nsl,.bool false,.str 0 0,.nsl,.bool false,.str 0 0,.nsl,.bool false,.str 0 0,.nsl,.bool false,.str 0 0,.nsl,.bool false,.str 0 0,.nsl,.bool false,.str 0 0,.nsl,.bool false,.str 0 0,.nsl,.bool false,.str 0 0,.nsl,.bool false,.str 0 0,.nsl,.bool false,.str 0 0,.nsl,.bool false,.str 0 0,.nsl,.bool false,.str 0 0,.nsl,.bool false,.str 0 0,.nsl,.bool false,.str 0 0,.nsl,.bool false,.str 0 0,.nsl,.bool false,.str 0 0,.nsl,.int .i64 (-1),.int .i64 0]:List AV)))) fun v2 h_3=>some (.ret (v2),h_3)
set_option maxHeartbeats 4000000 in
set_option maxRecDepth 20000 in
theorem z3a8{call:z10}(_:SaysAll Try.prog call){n:Nat}{h:AHeap}{rR:ARes}{hR:AHeap}(hF:z15d call n h=some (rR,hR)):Says Try.prog 20 [] h rR hR:=by
 unfold z15d at hF;exact sO Try.func20 fun w0 m0=>wW [] (oG fun n1=>W.r (oA 0 AV.nilp (oV [] (n1 (oG fun n2=>W.r (oA 1 (.agg ([.bool false,.str 0 0,.nsl,.bool false,.str 0 0,.nsl,.bool false,.str 0 0,.nsl,.bool false,.str 0 0,.nsl,.bool false,.str 0 0,.nsl,.bool false,.str 0 0,.nsl,.bool false,.str 0 0,.nsl,.bool false,.str 0 0,.nsl,.bool false,.str 0 0,.nsl,.bool false,.str 0 0,.nsl,.bool false,.str 0 0,.nsl,.bool false,.str 0 0,.nsl,.bool false,.str 0 0,.nsl,.bool false,.str 0 0,.nsl,.bool false,.str 0 0,.nsl,.bool false,.str 0 0,.nsl,.bool false,.str 0 0,.nsl,.bool false,.str 0 0,.nsl,.bool false,.str 0 0,.nsl,.bool false,.str 0 0,.nsl,.bool false,.str 0 0,.nsl,.bool false,.str 0 0,.nsl,.bool false,.str 0 0,.nsl,.bool false,.str 0 0,.nsl,.bool false,.str 0 0,.nsl,.bool false,.str 0 0,.nsl,.bool false,.str 0 0,.nsl,.bool false,.str 0 0,.nsl,.bool false,.str 0 0,.nsl,.bool false,.str 0 0,.nsl,.bool false,.str 0 0,.nsl,.bool false,.str 0 0,.nsl,.int .i64 (-1),.int .i64 0]:List AV)) (oK 2 hF fun v2 h_3 hF=>oA 0 v2 (oV [(0,v2)] (n2 (oY (lZ hF [.tmp 0] [v2] (rT zd))))))))))))
noncomputable def z69(call:z10)(_:Nat)(t0:AV)(t1:Int)(t2:List AV)(h:AHeap):R:=outK (zd9 h 75 (some (.agg t2))) fun v5 h_2=>callN (call 44 [t0,.int .i64 t1] h_2) fun r12 h_5=>obind (z146 r12) fun t12=>lett (newH h_5 62 [.bool false,.str 0 0]) fun h_8=>obind (z22 h_8 2 t12 (z13 h_5)) fun h_10=>obind (z27 0 v5) fun t14=>obind (zc h_10 t14) fun v15=>obind (z17 .i64 v15) fun t15=>lett ((t15:Int) == 1) fun (t16:Bool)=>lett (fun (t8:Int) (h_21:AHeap)=>callN (call 52 [t0,.int .i64 t1,.int .i64 t8] h_21) fun r49 h_23=>obind (z17 .i64 r49) fun t49=>lett ((t49:Int) == 0) fun (t51:Bool)=>lett (fun (h_30:AHeap)=>some (.ret (.int .i64 t49),h_30)) fun k29=>ifB t51 (obind (z53 t0) fun t55=>obind (z27 0 t55) fun t56=>obind (z169 32 3 t56 t1) fun t57=>obind (z27 2 t57) fun t58=>obind (zc h_23 t58) fun v59=>outK (z34 Try.prog h_23 63 63 AV.nsl v59) fun v60 h_39=>obind (z2c h_39 3 v5) fun t64=>obind (z53 t0) fun t67=>obind (z27 0 t67) fun t68=>outK (z1df Try.prog h_39 63 1 [(0,.agg t64)]) fun v65 h_44=>outK (z34 Try.prog h_44 63 63 v60 v65) fun v66 h_46=>obind (z169 32 3 t68 t1) fun t69=>obind (z27 2 t69) fun t70=>obind (z22 h_46 1 (AV.cells v66) t70) fun h_50=>k29 h_50) (k29 h_23)) fun k20=>ifB t16 (obind (z27 1 v5) fun t17=>obind (zc h_10 t17) fun v18=>obind (z20 v18) fun t18=>obind (zc h_10 (AV.ptr (AHeap.next h_5) 1)) fun v21=>obind (z20 v21) fun t21=>lett (IntKind.i64.wrap (1048576 - (z3b t21))) fun (t23:Int)=>lett (decide ((z3b t18)>t23)) fun (t24:Bool)=>lett (fun (t8_61:Int) (h_62:AHeap)=>k20 t8_61 h_62) fun k60=>ifB t24 (k60 8 h_10) (k60 0 h_10)) (obind (zc h_10 (AV.ptr (AHeap.next h_5) 0)) fun v27=>obind (z33 v27) fun t27=>lett (!t27) fun (t28:Bool)=>lett (fun (t8_68:Int) (h_69:AHeap)=>k20 t8_68 h_69) fun k67=>ifB t28 (k67 4 h_10) (obind (z27 0 v5) fun t30=>obind (zc h_10 t30) fun v31=>obind (z17 .i64 v31) fun t31=>lett ((t31:Int) == 2) fun (t32:Bool)=>lett (fun (t45:Bool) (h_75:AHeap)=>lett (fun (t8_79:Int) (h_80:AHeap)=>k67 t8_79 h_80) fun k78=>ifB t45 (k78 5 h_75) (k78 0 h_75)) fun j45=>ifB t32 (obind (z27 2 v5) fun t34=>obind (zc h_10 t34) fun v35=>obind (z17 .i64 v35) fun t35=>lett (decide (t35<0)) fun (t36:Bool)=>lett (fun (t44:Bool) (h_85:AHeap)=>j45 t44 h_85) fun j44=>ifB t36 (j44 true h_10) (obind (z27 2 v5) fun t38=>obind (zc h_10 t38) fun v39=>obind (z17 .i64 v39) fun t39=>obind (zc h_10 (AV.ptr (AHeap.next h_5) 1)) fun v41=>obind (z20 v41) fun t41=>lett (decide (t39>(z3b t41))) fun (t43:Bool)=>j44 t43 h_10)) (j45 false h_10)))
set_option maxHeartbeats 4000000 in
set_option maxRecDepth 20000 in
theorem z1da{call:z10}(hc:SaysAll Try.prog call){n:Nat}{t0:AV}{t1:Int}{t2:List AV}{h:AHeap}{rR:ARes}{hR:AHeap}(hF:z69 call n t0 t1 t2 h=some (rR,hR)):Says Try.prog 27 [t0,.int .i64 t1,.agg t2] h rR hR:=by
 unfold z69 at hF;refine sO Try.func27 fun w0 m0=>wW [(0,t0),(1,.int .i64 t1),(2,.agg t2)] (oG fun n1=>W.r (oK 5 hF fun v5 h_2 hF=>oA 6 (.int .i64 0) (oV [(0,t0),(1,.int .i64 t1),(5,v5)] (n1 (oG fun n4=>W.r (oA 10 t0 (oA 11 (.int .i64 t1) (oCa hc 12 hF fun t12 h_5 hF=>oN 7 hF fun h_8 hF=>oW 62 (.agg t12) hF fun h_10 hF=>oV [(0,t0),(1,.int .i64 t1),(5,v5),(7,(z13 h_5))] (n4 (oG fun n12=>W.r (oA 8 (.int .i64 0) (oV [(0,t0),(1,.int .i64 t1),(5,v5),(7,(z13 h_5)),(8,.int .i64 0)] (n12 (oG fun n13=>W.blockK (by kernel_rfl) (fun K14 n14 s14 o14 q14 p14=>oG fun n15=>W.r (oF 14 75 0 hF fun t14 hF=>oLi 15 3 hF fun t15 hF=>oB 16 hF fun t16 hF=>oA 13 (.bool t16) (oV [(0,t0),(1,.int .i64 t1),(5,v5),(7,(z13 h_5)),(8,.int .i64 0),(13,.bool t16)] (n15 ?_))))))))))))))))));obtain⟨k20,e20,hF⟩:=z6 hF
 have J20:∀(t8:Int) (h_21:AHeap),k20 t8 h_21=some (rR,hR)→Go w0 m0 (Func.ntmps Try.f27) (K14 .normal) [(0,t0),(1,.int .i64 t1),(5,v5),(8,.int .i64 t8)] [] h_21:=by
  intro t8 h_21 hF;rw[e20] at hF;refine n14 (n13 (oG fun n22=>W.r (oA 46 t0 (oA 47 (.int .i64 t1) (oA 48 (.int .i64 t8) (oCi hc 49 hF fun t49 h_23 hF=>oA 8 (.int .i64 t49) (oV [(0,t0),(1,.int .i64 t1),(5,v5),(8,.int .i64 t49)] (n22 (W.s (fun K26 n26 e26 q26 p26=>oG fun n27=>W.r (oA 50 (.int .i64 t49) (oB 51 hF fun t51 hF=>oV [(0,t0),(1,.int .i64 t1),(5,v5),(8,.int .i64 t49),(51,.bool t51)] (n27 ?_)))))))))))));obtain⟨k29,e29,hF⟩:=z6 hF
  have J29:∀(h_30:AHeap),k29 h_30=some (rR,hR)→Go w0 m0 (Func.ntmps Try.f27) (K26 .normal) [(8,.int .i64 t49)] [] h_30:=by
   intro h_30 hF;rw[e29] at hF;exact n26 (oG fun n31=>W.r (oA 71 (.int .i64 t49) (oA 6 (.int .i64 t49) (oV [(6,.int .i64 t49)] (n31 (oY (lZ hF [.tmp 6] [.int .i64 t49] (rT zd))))))))
  cases t51 with
  |true=>
   refine oT hF fun hF=>oG fun n32=>W.r (oA 9 AV.nsl (oV [(0,t0),(1,.int .i64 t1),(5,v5),(8,.int .i64 t49),(9,AV.nsl)] (n32 (oG fun n33=>W.r (oA 52 AV.nsl (oA 53 t0 (oA 54 (.int .i64 t1) (oC0 55 hF fun t55 hF=>oF 56 68 0 hF fun t56 hF=>oQ 57 66 65 .i64 hF fun t57 hF=>oF 58 65 1 hF fun t58 hF=>oL 59 63 hF fun v59 hF=>oK 60 hF fun v60 h_39 hF=>oA 9 v60 (oV [(0,t0),(1,.int .i64 t1),(5,v5),(8,.int .i64 t49),(9,v60)] (n33 (W.draw (by kernel_rfl) (hc.ok w0) (plan:=[0,1,2,3,6,7,4,5,8,9,10]) (by kernel_rfl) (by kernel_rfl) (by kernel_rfl) (WD.a 0 (some 61) t0 h_39 (WD.a 0 (some 62) (.int .i64 t1) h_39 (WD.a 0 (some 63) v60 h_39 ?_))))))))))))));obtain⟨t64,e41,hF⟩:=z4 hF;refine WD.b 1 (some 64) (.agg t64) h_39 (z64 (P:=Try.prog) (h:=h_39) (t:=75) (by kernel_rfl) (by kernel_rfl) e41) ?_;obtain⟨t67,e42,hF⟩:=z4 hF;refine WD.b 0 (some 67) t67 h_39 (z2b (h:=h_39) e42) ?_;obtain⟨t68,e43,hF⟩:=z4 hF;refine WD.b 0 (some 68) t68 h_39 (z15 (P:=Try.prog) (h:=h_39) (s:=68) (f:=0) (by kernel_rfl) e43) ?_;obtain⟨v65,h_44,e45,hF⟩:=z1c hF;refine WD.val (d:=(some 65)) (v:=v65) (h':=h_44) (by kernel_rfl) (by kernel_rfl) (Eq.trans (by kernel_rfl) e45) (k:=2) (by kernel_rfl) (fun _=>(by kernel_rfl)) (by decide) ?_;obtain⟨v66,h_46,e47,hF⟩:=z1c hF;refine WD.val (d:=(some 66)) (v:=v66) (h':=h_46) (by kernel_rfl) (by kernel_rfl) (Eq.trans (by kernel_rfl) e47) (k:=2) (by kernel_rfl) (fun _=>(by kernel_rfl)) (by decide) ?_;obtain⟨t69,e48,hF⟩:=z4 hF;refine WD.b 0 (some 69) t69 h_46 (z132 (P:=Try.prog) (h:=h_46) (t:=66) (e':=65) (k:=.i64) (by kernel_rfl) (by kernel_rfl) (by kernel_rfl) e48) ?_;obtain⟨t70,e49,hF⟩:=z4 hF;refine WD.b 0 (some 70) t70 h_46 (z15 (P:=Try.prog) (h:=h_46) (s:=65) (f:=1) (by kernel_rfl) e49) ?_;obtain⟨h_50,e51,hF⟩:=z4 hF;exact WD.eff (h':=h_50) (by kernel_rfl) (by kernel_rfl) (Eq.trans (by kernel_rfl) (z55 (P:=Try.prog) (h:=h_46) (t:=63) (v:=v66) (by kernel_rfl) (by kernel_rfl) e51)) (k:=2) (by kernel_rfl) (fun _=>(by kernel_rfl)) (by decide) (WD.nil (gW [(8,.int .i64 t49)] (gW _ (J29 _ hF))))
  |false=>
   exact oU hF fun hF=>oZ (gW _ (J29 _ hF))
 cases t16 with
 |true=>
  refine oT hF fun hF=>oG fun n52=>W.r (oF 17 75 1 hF fun t17 hF=>oLs 18 9 hF fun t18 hF=>oA 19 (.int .i64 (z3b t18)) (oA 20 (AV.ptr (AHeap.next h_5) 1) (oLs 21 9 hF fun t21 hF=>oA 22 (.int .i64 (z3b t21)) (oI 23 .i64 hF fun t23 hF=>oB 24 hF fun t24 hF=>oV [(0,t0),(1,.int .i64 t1),(5,v5),(8,.int .i64 0),(24,.bool t24)] (n52 ?_)))));obtain⟨k60,e60,hF⟩:=z6 hF
  have J60:∀(t8_61:Int) (h_62:AHeap),k60 t8_61 h_62=some (rR,hR)→Go w0 m0 (Func.ntmps Try.f27) (K14 .normal) [(0,t0),(1,.int .i64 t1),(5,v5),(8,.int .i64 t8_61)] [] h_62:=by
   intro t8_61 h_62 hF;rw[e60] at hF;exact gW _ (J20 _ _ hF)
  cases t24 with
  |true=>
   exact oT hF fun hF=>W.r (oA 8 (.int .i64 8) (oV [(0,t0),(1,.int .i64 t1),(5,v5),(8,.int .i64 8)] (gW _ (J60 _ _ hF))))
  |false=>
   exact oU hF fun hF=>oZ (gW _ (J60 _ _ hF))
 |false=>
  refine oU hF fun hF=>oG fun n63=>W.r (oA 26 (AV.ptr (AHeap.next h_5) 0) (oLb 27 4 hF fun t27 hF=>oB 28 hF fun t28 hF=>oA 25 (.bool t28) (oV [(0,t0),(1,.int .i64 t1),(5,v5),(7,(z13 h_5)),(8,.int .i64 0),(25,.bool t28)] (n63 ?_))));obtain⟨k67,e67,hF⟩:=z6 hF
  have J67:∀(t8_68:Int) (h_69:AHeap),k67 t8_68 h_69=some (rR,hR)→Go w0 m0 (Func.ntmps Try.f27) (K14 .normal) [(0,t0),(1,.int .i64 t1),(5,v5),(8,.int .i64 t8_68)] [] h_69:=by
   intro t8_68 h_69 hF;rw[e67] at hF;exact gW _ (J20 _ _ hF)
  cases t28 with
  |true=>
   exact oT hF fun hF=>W.r (oA 8 (.int .i64 4) (oV [(0,t0),(1,.int .i64 t1),(5,v5),(8,.int .i64 4)] (gW _ (J67 _ _ hF))))
  |false=>
   refine oU hF fun hF=>W.s (fun K70 n70 e70 q70 p70=>W.r (oF 30 75 0 hF fun t30 hF=>oLi 31 3 hF fun t31 hF=>oB 32 hF fun t32 hF=>oA 33 (.bool t32) ?_));obtain⟨j45,e76,hF⟩:=z6 hF
   have J77:∀(t45:Bool) (h_75:AHeap),j45 t45 h_75=some (rR,hR)→WL Try.prog w0 m0 (Func.ntmps Try.f27) (Code.ops (y6 (y5 (y5 (y5 (y5 (y6 (y6 (y5 (y5 (y5 (z2a Try.f27)))))))))))) 16 K70 [(0,t0),(1,.int .i64 t1),(5,v5),(8,.int .i64 0),(45,.bool t45)] [] h_75:=by
    intro t45 h_75 hF;rw[e76] at hF;refine oA 29 (.bool t45) (oV [(0,t0),(1,.int .i64 t1),(5,v5),(8,.int .i64 0),(29,.bool t45)] (n70 ?_));obtain⟨k78,e78,hF⟩:=z6 hF
    have J78:∀(t8_79:Int) (h_80:AHeap),k78 t8_79 h_80=some (rR,hR)→Go w0 m0 (Func.ntmps Try.f27) (K14 .normal) [(0,t0),(1,.int .i64 t1),(5,v5),(8,.int .i64 t8_79)] [] h_80:=by
     intro t8_79 h_80 hF;rw[e78] at hF;exact gW _ (J67 _ _ hF)
    cases t45 with
    |true=>
     exact oT hF fun hF=>W.r (oA 8 (.int .i64 5) (oV [(0,t0),(1,.int .i64 t1),(5,v5),(8,.int .i64 5)] (gW _ (J78 _ _ hF))))
    |false=>
     exact oU hF fun hF=>oZ (gW _ (J78 _ _ hF))
   cases t32 with
   |true=>
    replace hF:=z4f hF
    refine oF 34 75 2 hF fun t34 hF=>oLi 35 3 hF fun t35 hF=>oB 36 hF fun t36 hF=>oA 37 (.bool t36) ?_;obtain⟨j44,e86,hF⟩:=z6 hF
    have J87:∀(t44:Bool) (h_85:AHeap),j44 t44 h_85=some (rR,hR)→WL Try.prog w0 m0 (Func.ntmps Try.f27) (Code.ops (y6 (y5 (y5 (y5 (y5 (y6 (y6 (y5 (y5 (y5 (z2a Try.f27)))))))))))) 15 K70 [(0,t0),(1,.int .i64 t1),(5,v5),(8,.int .i64 0),(33,.bool true),(44,.bool t44)] [] h_85:=by
     intro t44 h_85 hF;rw[e86] at hF;exact oA 45 (.bool t44) (lW _ (J77 _ _ hF))
    cases t36 with
    |true=>
     replace hF:=z4f hF
     exact WL.o (some 38) (WL.o (some 39) (WL.o (some 40) (WL.o (some 41) (WL.o (some 42) (WL.o (some 43) (oA 44 (.bool true) (lW _ (J87 _ _ hF))))))))
    |false=>
     replace hF:=z50 hF
     exact oF 38 75 2 hF fun t38 hF=>oLi 39 3 hF fun t39 hF=>oA 40 (AV.ptr (AHeap.next h_5) 1) (oLs 41 9 hF fun t41 hF=>oA 42 (.int .i64 (z3b t41)) (oB 43 hF fun t43 hF=>oA 44 (.bool t43) (lW _ (J87 _ _ hF))))
   |false=>
    replace hF:=z50 hF
    exact WL.o (some 34) (WL.o (some 35) (WL.o (some 36) (WL.o (some 37) (WL.o (some 38) (WL.o (some 39) (WL.o (some 40) (WL.o (some 41) (WL.o (some 42) (WL.o (some 43) (WL.o (some 44) (oA 45 (.bool false) (lW _ (J77 _ _ hF)))))))))))))
noncomputable def z93(call:z10)(_:Nat)(t0:AV)(t1:Int)(h:AHeap):R:=callN (call 52 [t0,.int .i64 t1,.int .i64 0] h) fun r8 h_3=>obind (z17 .i64 r8) fun t8=>lett ((t8:Int) == 0) fun (t10:Bool)=>lett (fun (h_10:AHeap)=>some (.ret (.int .i64 t8),h_10)) fun k9=>ifB t10 (obind (z53 t0) fun t15=>obind (z27 0 t15) fun t16=>obind (z169 32 3 t16 t1) fun t17=>obind (z2c h_3 3 t17) fun t18=>obind (z53 t0) fun t21=>obind (z27 0 t21) fun t22=>callN (call 67 [.agg t18] h_3) fun r19 h_18=>obind (z146 r19) fun t19=>obind (z45d Try.prog 65 [(0,.agg t19)]) fun t20=>obind (z169 32 3 t22 t1) fun t23=>obind (z22 h_18 3 t20 t23) fun h_23=>k9 h_23) (k9 h_3)
set_option maxHeartbeats 4000000 in
set_option maxRecDepth 20000 in
theorem z217{call:z10}(hc:SaysAll Try.prog call){n:Nat}{t0:AV}{t1:Int}{h:AHeap}{rR:ARes}{hR:AHeap}(hF:z93 call n t0 t1 h=some (rR,hR)):Says Try.prog 46 [t0,.int .i64 t1] h rR hR:=by
 unfold z93 at hF;refine sO Try.func46 fun w0 m0=>wW [(0,t0),(1,.int .i64 t1)] (oG fun n1=>W.r (oA 4 (.int .i64 0) (oV [(0,t0),(1,.int .i64 t1)] (n1 (oG fun n2=>W.r (oA 6 t0 (oA 7 (.int .i64 t1) (oCi hc 8 hF fun t8 h_3 hF=>oA 5 (.int .i64 t8) (oV [(0,t0),(1,.int .i64 t1),(5,.int .i64 t8)] (n2 (W.s (fun K6 n6 e6 q6 p6=>oG fun n7=>W.r (oA 9 (.int .i64 t8) (oB 10 hF fun t10 hF=>oV [(0,t0),(1,.int .i64 t1),(5,.int .i64 t8),(10,.bool t10)] (n7 ?_)))))))))))))));obtain⟨k9,e9,hF⟩:=z6 hF
 have J9:∀(h_10:AHeap),k9 h_10=some (rR,hR)→Go w0 m0 (Func.ntmps Try.f46) (K6 .normal) [(5,.int .i64 t8)] [] h_10:=by
  intro h_10 hF;rw[e9] at hF;exact n6 (oG fun n11=>W.r (oA 24 (.int .i64 t8) (oA 4 (.int .i64 t8) (oV [(4,.int .i64 t8)] (n11 (oY (lZ hF [.tmp 4] [.int .i64 t8] (rT zd))))))))
 cases t10 with
 |true=>
  refine oT hF fun hF=>W.draw (by kernel_rfl) (hc.ok w0) (plan:=[0,1,2,3,4,5,6,7,10,11,8,9,12,13]) (by kernel_rfl) (by kernel_rfl) (by kernel_rfl) (WD.a 0 (some 11) t0 h_3 (WD.a 0 (some 12) (.int .i64 t1) h_3 (WD.a 0 (some 13) t0 h_3 (WD.a 0 (some 14) (.int .i64 t1) h_3 ?_))));obtain⟨t15,e12,hF⟩:=z4 hF;refine WD.b 0 (some 15) t15 h_3 (z2b (h:=h_3) e12) ?_;obtain⟨t16,e13,hF⟩:=z4 hF;refine WD.b 0 (some 16) t16 h_3 (z15 (P:=Try.prog) (h:=h_3) (s:=68) (f:=0) (by kernel_rfl) e13) ?_;obtain⟨t17,e14,hF⟩:=z4 hF;refine WD.b 0 (some 17) t17 h_3 (z132 (P:=Try.prog) (h:=h_3) (t:=66) (e':=65) (k:=.i64) (by kernel_rfl) (by kernel_rfl) (by kernel_rfl) e14) ?_;obtain⟨t18,e15,hF⟩:=z4 hF;refine WD.b 1 (some 18) (.agg t18) h_3 (z64 (P:=Try.prog) (h:=h_3) (t:=65) (by kernel_rfl) (by kernel_rfl) e15) ?_;obtain⟨t21,e16,hF⟩:=z4 hF;refine WD.b 0 (some 21) t21 h_3 (z2b (h:=h_3) e16) ?_;obtain⟨t22,e17,hF⟩:=z4 hF;refine WD.b 0 (some 22) t22 h_3 (z15 (P:=Try.prog) (h:=h_3) (s:=68) (f:=0) (by kernel_rfl) e17) ?_
  replace hF:=z18 hF;obtain⟨r19,h_18,e19,hF⟩:=hF
  replace hF:=z4 hF;obtain⟨t19,c20,hF⟩:=hF
  have c20:=zcb c20;subst c20;refine WD.call (d:=(some 19)) (by kernel_rfl) (by kernel_rfl) (by kernel_rfl) e19 (k:=2) (by kernel_rfl) (fun _=>(by kernel_rfl)) (by decide) ?_;obtain⟨t20,e21,hF⟩:=z4 hF;refine WD.val (d:=(some 20)) (v:=.agg t20) (h':=h_18) (by kernel_rfl) (by kernel_rfl) (z32c (by kernel_rfl) e21) (k:=0) (by kernel_rfl) (fun e=>absurd e (by decide)) (by decide) ?_;obtain⟨t23,e22,hF⟩:=z4 hF;refine WD.b 0 (some 23) t23 h_18 (z132 (P:=Try.prog) (h:=h_18) (t:=66) (e':=65) (k:=.i64) (by kernel_rfl) (by kernel_rfl) (by kernel_rfl) e22) ?_;obtain⟨h_23,e24,hF⟩:=z4 hF;exact WD.eff (h':=h_23) (by kernel_rfl) (by kernel_rfl) (Eq.trans (by kernel_rfl) (z55 (P:=Try.prog) (h:=h_18) (t:=65) (v:=(.agg t20)) (by kernel_rfl) (by kernel_rfl) e24)) (k:=2) (by kernel_rfl) (fun _=>(by kernel_rfl)) (by decide) (WD.nil (gW [(5,.int .i64 t8)] (gW _ (J9 _ hF))))
 |false=>
  exact oU hF fun hF=>oZ (gW _ (J9 _ hF))
noncomputable def z61(call:z10)(h_11:AHeap)(v29:AV)(t9_48:Int)(k53:AHeap→R)(self:Int→AHeap→R)(t10:Int)(h_117:AHeap):R:=lett (decide (t10<t9_48)) fun (t53:Bool)=>ifB t53 (obind (z2c h_117 2 (z13 h_11)) fun t56=>obind (z150 3 v29 t10) fun t59=>obind (z2c h_117 3 t59) fun t60=>callN (call 48 [.agg t56,.agg t60] h_117) fun r61 h_126=>obind (z146 r61) fun t61=>obind (z22 h_126 2 t61 (z13 h_11)) fun h_129=>lett (IntKind.i64.wrap (t10+1)) fun (t55:Int)=>self t55 h_129) (k53 h_117)
noncomputable def z59(call:z10)(h_11:AHeap)(v29:AV)(t9_48:Int)(k53:AHeap→R):Nat→Int→AHeap→R:=z122 (fun _ _=>none) (z61 call h_11 v29 t9_48 k53)
theorem zbb(call:z10)(h_11:AHeap)(v29:AV)(t9_48:Int)(k53:AHeap→R)(m:Nat):z59 call h_11 v29 t9_48 k53 (m+1)=z61 call h_11 v29 t9_48 k53 (z59 call h_11 v29 t9_48 k53 m):=rfl
noncomputable def z62(call:z10)(n:Nat)(t0:AV)(t1:AV)(t2:Int)(k4:AHeap→R)(self:Int→AHeap→R)(t6:Int)(h_11:AHeap):R:=lett (decide (t6<32)) fun (t13:Bool)=>ifB t13 (obind (z53 t0) fun t18=>obind (z27 0 t18) fun t19=>obind (z169 32 3 t19 t6) fun t20=>obind (z27 0 t20) fun t21=>obind (z2c h_11 2 t21) fun t22=>lett (newH h_11 62 [.bool false,.str 0 0]) fun h_23=>obind (z22 h_23 2 t22 (z13 h_11)) fun h_25=>obind (z53 t0) fun t25=>obind (z27 0 t25) fun t26=>obind (z169 32 3 t26 t6) fun t27=>obind (z27 2 t27) fun t28=>obind (zc h_25 t28) fun v29=>obind (z12d t1) fun t32=>lett (decide (t6<t32)) fun (t33:Bool)=>lett (fun (t40:Bool) (h_38:AHeap)=>lett (fun (t9:Int) (h_42:AHeap)=>obind (z12d v29) fun t47=>lett (decide (t9>t47)) fun (t48:Bool)=>lett (fun (t9_48:Int) (h_49:AHeap)=>lett (fun (h_54:AHeap)=>obind (z12d v29) fun t64=>lett (decide (t9_48<t64)) fun (t65:Bool)=>lett (fun (t73:Bool) (h_59:AHeap)=>lett (fun (t82:Bool) (h_62:AHeap)=>lett (fun (t86:Bool) (h_65:AHeap)=>lett (fun (h_69:AHeap)=>obind (z2c h_69 2 (z13 h_11)) fun t116=>obind (z45d Try.prog 65 [(0,.agg t116)]) fun t117=>obind (z53 t0) fun t118=>obind (z27 0 t118) fun t119=>obind (z169 32 3 t119 t6) fun t120=>obind (z22 h_69 3 t117 t120) fun h_75=>lett (IntKind.i64.wrap (t6+1)) fun (t15:Int)=>self t15 h_75) fun k68=>ifB t86 (obind (z150 3 v29 t9_48) fun t91=>obind (z27 1 t91) fun t92=>obind (zc h_65 t92) fun v93=>obind (z20 v93) fun t93=>lett (IntKind.i64.wrap ((z3b t93) - 1)) fun (t95:Int)=>lett (decide (t2>t95)) fun (t96:Bool)=>lett (fun (t11:Int) (h_88:AHeap)=>obind (z2c h_88 2 (z13 h_11)) fun t104=>obind (z150 3 v29 t9_48) fun t107=>obind (z27 1 t107) fun t108=>obind (zc h_88 t108) fun v109=>obind (z20 v109) fun t109=>obind (z43 t109 0 t11) fun t111=>callN (call 48 [.agg t104,.agg ([.int .i64 1,z5 t111,.int .i64 0]:List AV)] h_88) fun r113 h_95=>obind (z146 r113) fun t113=>obind (z22 h_95 2 t113 (z13 h_11)) fun h_98=>k68 h_98) fun k87=>ifB t96 (obind (z150 3 v29 t9_48) fun t99=>obind (z27 1 t99) fun t100=>obind (zc h_65 t100) fun v101=>obind (z20 v101) fun t101=>lett (IntKind.i64.wrap ((z3b t101) - 1)) fun (t103:Int)=>k87 t103 h_65) (k87 t2 h_65)) (k68 h_65)) fun j86=>ifB t82 (lett (decide (t2>0)) fun (t85:Bool)=>j86 t85 h_62) (j86 false h_62)) fun j82=>ifB t73 (obind (z150 3 v29 t9_48) fun t77=>obind (z27 1 t77) fun t78=>obind (zc h_59 t78) fun v79=>obind (z20 v79) fun t79=>lett (decide ((z3b t79)>0)) fun (t81:Bool)=>j82 t81 h_59) (j82 false h_59)) fun j73=>ifB t65 (obind (z150 3 v29 t9_48) fun t69=>obind (z27 0 t69) fun t70=>obind (zc h_54 t70) fun v71=>obind (z17 .i64 v71) fun t71=>lett ((t71:Int) == 1) fun (t72:Bool)=>j73 t72 h_54) (j73 false h_54)) fun k53=>z59 call h_11 v29 t9_48 k53 n 0 h_49) fun k47=>ifB t48 (obind (z12d v29) fun t50=>k47 t50 h_42) (k47 t9 h_42)) fun k41=>ifB t40 (obind (z150 1 t1 t6) fun t43=>obind (zc h_38 t43) fun v44=>obind (z17 .i64 v44) fun t44=>k41 t44 h_38) (k41 0 h_38)) fun j40=>ifB t33 (obind (z150 1 t1 t6) fun t37=>obind (zc h_25 t37) fun v38=>obind (z17 .i64 v38) fun t38=>lett (decide (t38>0)) fun (t39:Bool)=>j40 t39 h_25) (j40 false h_25)) (k4 h_11)
noncomputable def z4b(call:z10)(n:Nat)(t0:AV)(t1:AV)(t2:Int)(k4:AHeap→R):Nat→Int→AHeap→R:=z122 (fun _ _=>none) (z62 call n t0 t1 t2 k4)
theorem zbc(call:z10)(n:Nat)(t0:AV)(t1:AV)(t2:Int)(k4:AHeap→R)(m:Nat):z4b call n t0 t1 t2 k4 (m+1)=z62 call n t0 t1 t2 k4 (z4b call n t0 t1 t2 k4 m):=rfl
noncomputable def z77(call:z10)(n:Nat)(t0:AV)(t1:AV)(t2:Int)(h:AHeap):R:=lett (fun (h_5:AHeap)=>obind (z53 t0) fun t122=>obind (z27 96 t122) fun t123=>obind (z22 h_5 1 [.int .i64 (-1)] t123) fun h_8=>some (.ret (.tup []),h_8)) fun k4=>z4b call n t0 t1 t2 k4 n 0 h
set_option maxHeartbeats 4000000 in
set_option maxRecDepth 20000 in
theorem z1f4{call:z10}(hc:SaysAll Try.prog call){n:Nat}{t0:AV}{t1:AV}{t2:Int}{h:AHeap}{rR:ARes}{hR:AHeap}(hF:z77 call n t0 t1 t2 h=some (rR,hR)):Says Try.prog 24 [t0,t1,.int .i64 t2] h rR hR:=by
 unfold z77 at hF;refine sO Try.func24 fun w0 m0=>wW [(0,t0),(1,t1),(2,.int .i64 t2)] (W.s (fun K1 n1 e1 q1 p1=>oG fun n2=>W.r (oA 6 (.int .i64 0) (oV [(0,t0),(1,t1),(2,.int .i64 t2),(6,.int .i64 0)] (n2 ?_)))));obtain⟨k4,e4,hF⟩:=z6 hF
 have J4:∀(h_5:AHeap),k4 h_5=some (rR,hR)→Go w0 m0 (Func.ntmps Try.f24) (K1 .normal) [(0,t0)] [] h_5:=by
  intro h_5 hF;rw[e4] at hF;exact n1 (W.r (oA 121 t0 (oC0 122 hF fun t122 hF=>oF 123 68 1 hF fun t123 hF=>oW 3 (.int .i64 (-1)) hF fun h_8 hF=>oV [] (lY hF [] [] zd))))
 refine W.blockK (by kernel_rfl) (fun K3 n3 s3 o3 q3 p3=>W.loopK (by kernel_rfl) (fun I10 K10 b10 n10 e10 q10 p10=>?_))
 have L10:∀(m:Nat) (t6:Int) (h_11:AHeap),z4b call n t0 t1 t2 k4 m t6 h_11=some (rR,hR)→Go w0 m0 (Func.ntmps Try.f24) I10 [(0,t0),(1,t1),(2,.int .i64 t2),(6,.int .i64 t6)] [] h_11:=by
  intro m
  induction m with
  |zero=>intro t6 h_11 hF;cases hF
  |succ m ih10=>
   intro t6 h_11 hF;rw[zbc] at hF;unfold z62 at hF;refine b10 (W.s (fun K12 n12 e12 q12 p12=>oG fun n13=>W.r (oA 12 (.int .i64 t6) (oB 13 hF fun t13 hF=>oV [(0,t0),(1,t1),(2,.int .i64 t2),(6,.int .i64 t6),(13,.bool t13)] (n13 ?_)))))
   cases t13 with
   |true=>
    refine oT hF fun hF=>oZ (n12 (oG fun n15=>W.blockK (by kernel_rfl) (fun K16 n16 s16 o16 q16 p16=>oG fun n17=>W.r (oA 16 t0 (oA 17 (.int .i64 t6) (oC0 18 hF fun t18 hF=>oF 19 68 0 hF fun t19 hF=>oQ 20 66 65 .i64 hF fun t20 hF=>oF 21 65 0 hF fun t21 hF=>oR 22 62 hF fun t22 hF=>oN 7 hF fun h_23 hF=>oW 62 (.agg t22) hF fun h_25 hF=>oV [(0,t0),(1,t1),(2,.int .i64 t2),(6,.int .i64 t6),(7,(z13 h_11))] (n17 (oG fun n27=>W.r (oA 23 t0 (oA 24 (.int .i64 t6) (oC0 25 hF fun t25 hF=>oF 26 68 0 hF fun t26 hF=>oQ 27 66 65 .i64 hF fun t27 hF=>oF 28 65 1 hF fun t28 hF=>oL 29 63 hF fun v29 hF=>oA 8 v29 (oV [(0,t0),(1,t1),(2,.int .i64 t2),(6,.int .i64 t6),(7,(z13 h_11)),(8,v29)] (n27 (oG fun n33=>W.r (oA 9 (.int .i64 0) (oV [(0,t0),(1,t1),(2,.int .i64 t2),(6,.int .i64 t6),(7,(z13 h_11)),(8,v29),(9,.int .i64 0)] (n33 (W.s (fun K34 n34 e34 q34 p34=>W.s (fun K35 n35 e35 q35 p35=>W.r (oA 30 (.int .i64 t6) (oA 31 t1 (oM 32 44 3 hF fun t32 hF=>oB 33 hF fun t33 hF=>oA 34 (.bool t33) ?_)))))))))))))))))))))));obtain⟨j40,e39,hF⟩:=z6 hF
    have J40:∀(t40:Bool) (h_38:AHeap),j40 t40 h_38=some (rR,hR)→WL Try.prog w0 m0 (Func.ntmps Try.f24) (Code.ops (y6 (y6 (y5 (y5 (y5 (y6 (y6 (y5 (y6 (y6 (y5 (y6 (z2a Try.f24)))))))))))))) 11 K35 [(0,t0),(1,t1),(2,.int .i64 t2),(6,.int .i64 t6),(7,(z13 h_11)),(8,v29),(9,.int .i64 0),(40,.bool t40)] [] h_38:=by
     intro t40 h_38 hF;rw[e39] at hF;refine oV [(0,t0),(1,t1),(2,.int .i64 t2),(6,.int .i64 t6),(7,(z13 h_11)),(8,v29),(9,.int .i64 0),(40,.bool t40)] (n35 ?_);obtain⟨k41,e41,hF⟩:=z6 hF
     have J41:∀(t9:Int) (h_42:AHeap),k41 t9 h_42=some (rR,hR)→Go w0 m0 (Func.ntmps Try.f24) (K34 .normal) [(0,t0),(1,t1),(2,.int .i64 t2),(6,.int .i64 t6),(7,(z13 h_11)),(8,v29),(9,.int .i64 t9)] [] h_42:=by
      intro t9 h_42 hF;rw[e41] at hF;refine n34 (W.s (fun K43 n43 e43 q43 p43=>oG fun n44=>W.r (oA 45 (.int .i64 t9) (oA 46 v29 (oM 47 63 75 hF fun t47 hF=>oB 48 hF fun t48 hF=>oV [(0,t0),(1,t1),(2,.int .i64 t2),(6,.int .i64 t6),(7,(z13 h_11)),(8,v29),(9,.int .i64 t9),(48,.bool t48)] (n44 ?_))))));obtain⟨k47,e47,hF⟩:=z6 hF
      have J47:∀(t9_48:Int) (h_49:AHeap),k47 t9_48 h_49=some (rR,hR)→Go w0 m0 (Func.ntmps Try.f24) (K43 .normal) [(0,t0),(1,t1),(2,.int .i64 t2),(6,.int .i64 t6),(7,(z13 h_11)),(8,v29),(9,.int .i64 t9_48)] [] h_49:=by
       intro t9_48 h_49 hF;rw[e47] at hF;refine n43 (W.s (fun K50 n50 e50 q50 p50=>oG fun n51=>W.r (oA 10 (.int .i64 0) (oV [(0,t0),(1,t1),(2,.int .i64 t2),(6,.int .i64 t6),(7,(z13 h_11)),(8,v29),(9,.int .i64 t9_48),(10,.int .i64 0)] (n51 ?_)))));obtain⟨k53,e53,hF⟩:=z6 hF
       have J53:∀(h_54:AHeap),k53 h_54=some (rR,hR)→Go w0 m0 (Func.ntmps Try.f24) (K50 .normal) [(0,t0),(1,t1),(2,.int .i64 t2),(6,.int .i64 t6),(7,(z13 h_11)),(8,v29),(9,.int .i64 t9_48)] [] h_54:=by
        intro h_54 hF;rw[e53] at hF;refine n50 (W.s (fun K55 n55 e55 q55 p55=>W.s (fun K56 n56 e56 q56 p56=>W.r (oA 62 (.int .i64 t9_48) (oA 63 v29 (oM 64 63 75 hF fun t64 hF=>oB 65 hF fun t65 hF=>oA 66 (.bool t65) ?_))))));obtain⟨j73,e60,hF⟩:=z6 hF
        have J61:∀(t73:Bool) (h_59:AHeap),j73 t73 h_59=some (rR,hR)→WL Try.prog w0 m0 (Func.ntmps Try.f24) (Code.ops (y6 (y6 (y5 (y5 (y5 (y5 (y5 (y5 (y6 (y6 (y5 (y6 (y6 (y5 (y6 (z2a Try.f24))))))))))))))))) 12 K56 [(0,t0),(1,t1),(2,.int .i64 t2),(6,.int .i64 t6),(7,(z13 h_11)),(8,v29),(9,.int .i64 t9_48),(73,.bool t73)] [] h_59:=by
         intro t73 h_59 hF;rw[e60] at hF;refine oA 74 (.bool t73) ?_;obtain⟨j82,e63,hF⟩:=z6 hF
         have J64:∀(t82:Bool) (h_62:AHeap),j82 t82 h_62=some (rR,hR)→WL Try.prog w0 m0 (Func.ntmps Try.f24) (Code.ops (y6 (y6 (y5 (y5 (y5 (y5 (y5 (y5 (y6 (y6 (y5 (y6 (y6 (y5 (y6 (z2a Try.f24))))))))))))))))) 21 K56 [(0,t0),(1,t1),(2,.int .i64 t2),(6,.int .i64 t6),(7,(z13 h_11)),(8,v29),(9,.int .i64 t9_48),(82,.bool t82)] [] h_62:=by
          intro t82 h_62 hF;rw[e63] at hF;refine oA 83 (.bool t82) ?_;obtain⟨j86,e66,hF⟩:=z6 hF
          have J67:∀(t86:Bool) (h_65:AHeap),j86 t86 h_65=some (rR,hR)→WL Try.prog w0 m0 (Func.ntmps Try.f24) (Code.ops (y6 (y6 (y5 (y5 (y5 (y5 (y5 (y5 (y6 (y6 (y5 (y6 (y6 (y5 (y6 (z2a Try.f24))))))))))))))))) 25 K56 [(0,t0),(1,t1),(2,.int .i64 t2),(6,.int .i64 t6),(7,(z13 h_11)),(8,v29),(9,.int .i64 t9_48),(86,.bool t86)] [] h_65:=by
           intro t86 h_65 hF;rw[e66] at hF;refine oV [(0,t0),(1,t1),(2,.int .i64 t2),(6,.int .i64 t6),(7,(z13 h_11)),(8,v29),(9,.int .i64 t9_48),(86,.bool t86)] (n56 ?_);obtain⟨k68,e68,hF⟩:=z6 hF
           have J68:∀(h_69:AHeap),k68 h_69=some (rR,hR)→Go w0 m0 (Func.ntmps Try.f24) (K55 .normal) [(0,t0),(1,t1),(2,.int .i64 t2),(6,.int .i64 t6),(7,(z13 h_11))] [] h_69:=by
            intro h_69 hF;rw[e68] at hF;refine n55 (W.draw (by kernel_rfl) (hc.ok w0) (plan:=[0,1,2,3,4,5,6,7]) (by kernel_rfl) (by kernel_rfl) (by kernel_rfl) (WD.a 0 (some 114) t0 h_69 (WD.a 0 (some 115) (.int .i64 t6) h_69 ?_)));obtain⟨t116,e70,hF⟩:=z4 hF;refine WD.b 1 (some 116) (.agg t116) h_69 (z64 (P:=Try.prog) (h:=h_69) (t:=62) (by kernel_rfl) (by kernel_rfl) e70) ?_;obtain⟨t117,e71,hF⟩:=z4 hF;refine WD.val (d:=(some 117)) (v:=.agg t117) (h':=h_69) (by kernel_rfl) (by kernel_rfl) (z32c (by kernel_rfl) e71) (k:=0) (by kernel_rfl) (fun e=>absurd e (by decide)) (by decide) ?_;obtain⟨t118,e72,hF⟩:=z4 hF;refine WD.b 0 (some 118) t118 h_69 (z2b (h:=h_69) e72) ?_;obtain⟨t119,e73,hF⟩:=z4 hF;refine WD.b 0 (some 119) t119 h_69 (z15 (P:=Try.prog) (h:=h_69) (s:=68) (f:=0) (by kernel_rfl) e73) ?_;obtain⟨t120,e74,hF⟩:=z4 hF;refine WD.b 0 (some 120) t120 h_69 (z132 (P:=Try.prog) (h:=h_69) (t:=66) (e':=65) (k:=.i64) (by kernel_rfl) (by kernel_rfl) (by kernel_rfl) e74) ?_;obtain⟨h_75,e76,hF⟩:=z4 hF;exact WD.eff (h':=h_75) (by kernel_rfl) (by kernel_rfl) (Eq.trans (by kernel_rfl) (z55 (P:=Try.prog) (h:=h_69) (t:=65) (v:=(.agg t117)) (by kernel_rfl) (by kernel_rfl) e76)) (k:=2) (by kernel_rfl) (fun _=>(by kernel_rfl)) (by decide) (WD.nil (gW [(0,t0),(1,t1),(2,.int .i64 t2),(6,.int .i64 t6)] (n16 (n15 (W.r (oA 14 (.int .i64 t6) (oI 15 .i64 hF fun t15 hF=>oA 6 (.int .i64 t15) (oV [(0,t0),(1,t1),(2,.int .i64 t2),(6,.int .i64 t15)] (n10 (gW _ (ih10 _ _ hF)))))))))))
           cases t86 with
           |true=>
            refine oT hF fun hF=>oG fun n78=>W.r (oA 87 (.int .i64 t2) (oA 11 (.int .i64 t2) (oV [(0,t0),(1,t1),(2,.int .i64 t2),(6,.int .i64 t6),(7,(z13 h_11)),(8,v29),(9,.int .i64 t9_48),(11,.int .i64 t2)] (n78 (W.s (fun K79 n79 e79 q79 p79=>oG fun n80=>W.r (oA 88 (.int .i64 t2) (oA 89 v29 (oA 90 (.int .i64 t9_48) (oP 91 63 75 .i64 hF fun t91 hF=>oF 92 75 1 hF fun t92 hF=>oLs 93 9 hF fun t93 hF=>oA 94 (.int .i64 (z3b t93)) (oI 95 .i64 hF fun t95 hF=>oB 96 hF fun t96 hF=>oV [(0,t0),(1,t1),(2,.int .i64 t2),(6,.int .i64 t6),(7,(z13 h_11)),(8,v29),(9,.int .i64 t9_48),(11,.int .i64 t2),(96,.bool t96)] (n80 ?_))))))))))));obtain⟨k87,e87,hF⟩:=z6 hF
            have J87:∀(t11:Int) (h_88:AHeap),k87 t11 h_88=some (rR,hR)→Go w0 m0 (Func.ntmps Try.f24) (K79 .normal) [(0,t0),(1,t1),(2,.int .i64 t2),(6,.int .i64 t6),(7,(z13 h_11)),(8,v29),(9,.int .i64 t9_48),(11,.int .i64 t11)] [] h_88:=by
             intro t11 h_88 hF;rw[e87] at hF;refine n79 (W.draw (by kernel_rfl) (hc.ok w0) (plan:=[0,1,2,3,4,5,6,7,8,9,10]) (by kernel_rfl) (by kernel_rfl) (by kernel_rfl) ?_);obtain⟨t104,e89,hF⟩:=z4 hF;refine WD.b 1 (some 104) (.agg t104) h_88 (z64 (P:=Try.prog) (h:=h_88) (t:=62) (by kernel_rfl) (by kernel_rfl) e89) (WD.a 0 (some 105) v29 h_88 (WD.a 0 (some 106) (.int .i64 t9_48) h_88 ?_));obtain⟨t107,e90,hF⟩:=z4 hF;refine WD.b 0 (some 107) t107 h_88 (z180 (P:=Try.prog) (h:=h_88) (t:=63) (e':=75) (k:=.i64) (by kernel_rfl) (by kernel_rfl) (by kernel_rfl) e90) ?_;obtain⟨t108,e91,hF⟩:=z4 hF;refine WD.b 0 (some 108) t108 h_88 (z15 (P:=Try.prog) (h:=h_88) (s:=75) (f:=1) (by kernel_rfl) e91) ?_
             replace hF:=z4 hF;obtain⟨v109,e92,hF⟩:=hF
             replace hF:=z4 hF;obtain⟨t109,c93,hF⟩:=hF
             have c93:=z19 c93;subst c93;refine WD.b 1 (some 109) (z5 t109) h_88 (z14 (P:=Try.prog) (h:=h_88) (t:=9) (by kernel_rfl) e92) (WD.a 0 (some 110) (.int .i64 t11) h_88 ?_);obtain⟨t111,e94,hF⟩:=z4 hF;refine WD.b 0 (some 111) (z5 t111) h_88 (z48 (P:=Try.prog) (h:=h_88) (t:=9) (A:=none) (B:=(some (.int .i64 t11))) (by kernel_rfl) (.inr ⟨rfl,rfl⟩) (.inl ⟨_,rfl⟩) e94) (WD.a 0 (some 112) (.agg ([.int .i64 1,z5 t111,.int .i64 0]:List AV)) h_88 ?_)
             replace hF:=z18 hF;obtain⟨r113,h_95,e96,hF⟩:=hF
             replace hF:=z4 hF;obtain⟨t113,c97,hF⟩:=hF
             have c97:=zcb c97;subst c97;refine WD.call (d:=(some 113)) (by kernel_rfl) (by kernel_rfl) (by kernel_rfl) e96 (k:=2) (by kernel_rfl) (fun _=>(by kernel_rfl)) (by decide) ?_;obtain⟨h_98,e99,hF⟩:=z4 hF;exact WD.eff (h':=h_98) (by kernel_rfl) (by kernel_rfl) (Eq.trans (by kernel_rfl) (z55 (P:=Try.prog) (h:=h_95) (t:=62) (v:=(.agg t113)) (by kernel_rfl) (by kernel_rfl) e99)) (k:=2) (by kernel_rfl) (fun _=>(by kernel_rfl)) (by decide) (WD.nil (gW [(0,t0),(1,t1),(2,.int .i64 t2),(6,.int .i64 t6),(7,(z13 h_11))] (gW _ (J68 _ hF))))
            cases t96 with
            |true=>
             exact oT hF fun hF=>W.r (oA 97 v29 (oA 98 (.int .i64 t9_48) (oP 99 63 75 .i64 hF fun t99 hF=>oF 100 75 1 hF fun t100 hF=>oLs 101 9 hF fun t101 hF=>oA 102 (.int .i64 (z3b t101)) (oI 103 .i64 hF fun t103 hF=>oA 11 (.int .i64 t103) (oV [(0,t0),(1,t1),(2,.int .i64 t2),(6,.int .i64 t6),(7,(z13 h_11)),(8,v29),(9,.int .i64 t9_48),(11,.int .i64 t103)] (gW _ (J87 _ _ hF)))))))
            |false=>
             exact oU hF fun hF=>oZ (gW _ (J87 _ _ hF))
           |false=>
            exact oU hF fun hF=>oZ (gW _ (J68 _ hF))
          cases t82 with
          |true=>
           replace hF:=z4f hF
           exact oA 84 (.int .i64 t2) (oB 85 hF fun t85 hF=>oA 86 (.bool t85) (lW _ (J67 _ _ hF)))
          |false=>
           replace hF:=z50 hF
           exact WL.o (some 84) (WL.o (some 85) (oA 86 (.bool false) (lW _ (J67 _ _ hF))))
         cases t73 with
         |true=>
          replace hF:=z4f hF
          exact oA 75 v29 (oA 76 (.int .i64 t9_48) (oP 77 63 75 .i64 hF fun t77 hF=>oF 78 75 1 hF fun t78 hF=>oLs 79 9 hF fun t79 hF=>oA 80 (.int .i64 (z3b t79)) (oB 81 hF fun t81 hF=>oA 82 (.bool t81) (lW _ (J64 _ _ hF)))))
         |false=>
          replace hF:=z50 hF
          exact WL.o (some 75) (WL.o (some 76) (WL.o (some 77) (WL.o (some 78) (WL.o (some 79) (WL.o (some 80) (WL.o (some 81) (oA 82 (.bool false) (lW _ (J64 _ _ hF)))))))))
        cases t65 with
        |true=>
         replace hF:=z4f hF
         exact oA 67 v29 (oA 68 (.int .i64 t9_48) (oP 69 63 75 .i64 hF fun t69 hF=>oF 70 75 0 hF fun t70 hF=>oLi 71 3 hF fun t71 hF=>oB 72 hF fun t72 hF=>oA 73 (.bool t72) (lW _ (J61 _ _ hF))))
        |false=>
         replace hF:=z50 hF
         exact WL.o (some 67) (WL.o (some 68) (WL.o (some 69) (WL.o (some 70) (WL.o (some 71) (WL.o (some 72) (oA 73 (.bool false) (lW _ (J61 _ _ hF))))))))
       refine W.blockK (by kernel_rfl) (fun K52 n52 s52 o52 q52 p52=>W.loopK (by kernel_rfl) (fun I116 K116 b116 n116 e116 q116 p116=>?_))
       have L116:∀(m:Nat) (t10:Int) (h_117:AHeap),z59 call h_11 v29 t9_48 k53 m t10 h_117=some (rR,hR)→Go w0 m0 (Func.ntmps Try.f24) I116 [(0,t0),(1,t1),(2,.int .i64 t2),(6,.int .i64 t6),(7,(z13 h_11)),(8,v29),(9,.int .i64 t9_48),(10,.int .i64 t10)] [] h_117:=by
        intro m
        induction m with
        |zero=>intro t10 h_117 hF;cases hF
        |succ m ih116=>
         intro t10 h_117 hF;rw[zbb] at hF;unfold z61 at hF;refine b116 (W.s (fun K118 n118 e118 q118 p118=>oG fun n119=>W.r (oA 51 (.int .i64 t10) (oA 52 (.int .i64 t9_48) (oB 53 hF fun t53 hF=>oV [(0,t0),(1,t1),(2,.int .i64 t2),(6,.int .i64 t6),(7,(z13 h_11)),(8,v29),(9,.int .i64 t9_48),(10,.int .i64 t10),(53,.bool t53)] (n119 ?_))))))
         cases t53 with
         |true=>
          refine oT hF fun hF=>oZ (n118 (oG fun n121=>W.blockK (by kernel_rfl) (fun K122 n122 s122 o122 q122 p122=>W.draw (by kernel_rfl) (hc.ok w0) (plan:=[0,1,2,3,4,5,6]) (by kernel_rfl) (by kernel_rfl) (by kernel_rfl) ?_)));obtain⟨t56,e123,hF⟩:=z4 hF;refine WD.b 1 (some 56) (.agg t56) h_117 (z64 (P:=Try.prog) (h:=h_117) (t:=62) (by kernel_rfl) (by kernel_rfl) e123) (WD.a 0 (some 57) v29 h_117 (WD.a 0 (some 58) (.int .i64 t10) h_117 ?_));obtain⟨t59,e124,hF⟩:=z4 hF;refine WD.b 0 (some 59) t59 h_117 (z180 (P:=Try.prog) (h:=h_117) (t:=63) (e':=75) (k:=.i64) (by kernel_rfl) (by kernel_rfl) (by kernel_rfl) e124) ?_;obtain⟨t60,e125,hF⟩:=z4 hF;refine WD.b 1 (some 60) (.agg t60) h_117 (z64 (P:=Try.prog) (h:=h_117) (t:=75) (by kernel_rfl) (by kernel_rfl) e125) ?_
          replace hF:=z18 hF;obtain⟨r61,h_126,e127,hF⟩:=hF
          replace hF:=z4 hF;obtain⟨t61,c128,hF⟩:=hF
          have c128:=zcb c128;subst c128;refine WD.call (d:=(some 61)) (by kernel_rfl) (by kernel_rfl) (by kernel_rfl) e127 (k:=2) (by kernel_rfl) (fun _=>(by kernel_rfl)) (by decide) ?_;obtain⟨h_129,e130,hF⟩:=z4 hF;exact WD.eff (h':=h_129) (by kernel_rfl) (by kernel_rfl) (Eq.trans (by kernel_rfl) (z55 (P:=Try.prog) (h:=h_126) (t:=62) (v:=(.agg t61)) (by kernel_rfl) (by kernel_rfl) e130)) (k:=2) (by kernel_rfl) (fun _=>(by kernel_rfl)) (by decide) (WD.nil (gW [(0,t0),(1,t1),(2,.int .i64 t2),(6,.int .i64 t6),(7,(z13 h_11)),(8,v29),(9,.int .i64 t9_48),(10,.int .i64 t10)] (n122 (n121 (W.r (oA 54 (.int .i64 t10) (oI 55 .i64 hF fun t55 hF=>oA 10 (.int .i64 t55) (oV [(0,t0),(1,t1),(2,.int .i64 t2),(6,.int .i64 t6),(7,(z13 h_11)),(8,v29),(9,.int .i64 t9_48),(10,.int .i64 t55)] (n116 (gW _ (ih116 _ _ hF)))))))))))
         |false=>
          exact oU hF fun hF=>W.exit (by kernel_rfl) (e118 (e116 (s52 (by kernel_rfl) (gW _ (J53 _ hF)))))
       exact gW _ (L116 _ _ _ hF)
      cases t48 with
      |true=>
       exact oT hF fun hF=>W.r (oA 49 v29 (oM 50 63 75 hF fun t50 hF=>oA 9 (.int .i64 t50) (oV [(0,t0),(1,t1),(2,.int .i64 t2),(6,.int .i64 t6),(7,(z13 h_11)),(8,v29),(9,.int .i64 t50)] (gW _ (J47 _ _ hF)))))
      |false=>
       exact oU hF fun hF=>oZ (gW _ (J47 _ _ hF))
     cases t40 with
     |true=>
      exact oT hF fun hF=>W.r (oA 41 t1 (oA 42 (.int .i64 t6) (oP 43 44 3 .i64 hF fun t43 hF=>oLi 44 3 hF fun t44 hF=>oA 9 (.int .i64 t44) (oV [(0,t0),(1,t1),(2,.int .i64 t2),(6,.int .i64 t6),(7,(z13 h_11)),(8,v29),(9,.int .i64 t44)] (gW _ (J41 _ _ hF))))))
     |false=>
      exact oU hF fun hF=>oZ (gW _ (J41 _ _ hF))
    cases t33 with
    |true=>
     replace hF:=z4f hF
     exact oA 35 t1 (oA 36 (.int .i64 t6) (oP 37 44 3 .i64 hF fun t37 hF=>oLi 38 3 hF fun t38 hF=>oB 39 hF fun t39 hF=>oA 40 (.bool t39) (lW _ (J40 _ _ hF))))
    |false=>
     replace hF:=z50 hF
     exact WL.o (some 35) (WL.o (some 36) (WL.o (some 37) (WL.o (some 38) (WL.o (some 39) (oA 40 (.bool false) (lW _ (J40 _ _ hF)))))))
   |false=>
    exact oU hF fun hF=>W.exit (by kernel_rfl) (e12 (e10 (s3 (by kernel_rfl) (gW _ (J4 _ hF)))))
 exact gW _ (L10 _ _ _ hF)
noncomputable def zaa(call:z10)(_:Nat)(t0:AV)(t1:Int)(h:AHeap):R:=lett (newH h 62 [.bool false,.str 0 0]) fun h_2=>lett (decide (t1<0)) fun (t6:Bool)=>lett (fun (t10:Bool) (h_7:AHeap)=>ifB t10 (obind (z22 h_7 2 ([.bool false,.str 0 0]:List AV) (z13 h)) fun h_11=>obind (z2c h_11 2 (z13 h)) fun w4=>some (.ret (.agg w4),h_11)) (obind (z53 t0) fun t14=>obind (z27 0 t14) fun t15=>obind (z169 32 3 t15 t1) fun t16=>obind (z2c h_7 3 t16) fun t17=>callN (call 67 [.agg t17] h_7) fun r18 h_19=>obind (z146 r18) fun t18=>obind (z22 h_19 2 t18 (z13 h)) fun h_22=>obind (z2c h_22 2 (z13 h)) fun w4_25=>some (.ret (.agg w4_25),h_22))) fun j10=>ifB t6 (j10 true h_2) (lett (decide (t1≥32)) fun (t9:Bool)=>j10 t9 h_2)
set_option maxHeartbeats 4000000 in
set_option maxRecDepth 20000 in
theorem z24d{call:z10}(hc:SaysAll Try.prog call){n:Nat}{t0:AV}{t1:Int}{h:AHeap}{rR:ARes}{hR:AHeap}(hF:zaa call n t0 t1 h=some (rR,hR)):Says Try.prog 44 [t0,.int .i64 t1] h rR hR:=by
 unfold zaa at hF;refine sO Try.func44 fun w0 m0=>wW [(0,t0),(1,.int .i64 t1)] (oG fun n1=>W.r (oN 4 hF fun h_2 hF=>oV [(0,t0),(1,.int .i64 t1),(4,(z13 h))] (n1 (oH fun n4 q4=>W.s (fun K5 n5 e5 q5 p5=>W.r (oA 5 (.int .i64 t1) (oB 6 hF fun t6 hF=>oA 7 (.bool t6) ?_)))))));obtain⟨j10,e8,hF⟩:=z6 hF
 have J9:∀(t10:Bool) (h_7:AHeap),j10 t10 h_7=some (rR,hR)→WL Try.prog w0 m0 (Func.ntmps Try.f44) (Code.ops (y6 (y6 (y5 (z2a Try.f44))))) 6 K5 [(0,t0),(1,.int .i64 t1),(4,(z13 h)),(10,.bool t10)] [] h_7:=by
  intro t10 h_7 hF;rw[e8] at hF;refine oV [(0,t0),(1,.int .i64 t1),(4,(z13 h)),(10,.bool t10)] (n5 ?_)
  cases t10 with
  |true=>
   refine oT hF fun hF=>oG fun n10=>W.r (oA 11 (.agg ([.bool false,.str 0 0]:List AV)) (oW 62 (.agg ([.bool false,.str 0 0]:List AV)) hF fun h_11 hF=>oV [(4,(z13 h))] (n10 (oY (q4 ?_)))));obtain⟨w4,e13,hF⟩:=z4 hF;exact lZ hF [.cell 4 62] [.agg w4] (rY e13 zd)
  |false=>
   refine oU hF fun hF=>oZ (n4 (oG fun n14=>W.r (oA 12 t0 (oA 13 (.int .i64 t1) (oC0 14 hF fun t14 hF=>oF 15 68 0 hF fun t15 hF=>oQ 16 66 65 .i64 hF fun t16 hF=>oR 17 65 hF fun t17 hF=>oCa hc 18 hF fun t18 h_19 hF=>oW 62 (.agg t18) hF fun h_22 hF=>oV [(4,(z13 h))] (n14 (oY ?_)))))));obtain⟨w4_25,e24,hF⟩:=z4 hF;exact lZ hF [.cell 4 62] [.agg w4_25] (rY e24 zd)
 cases t6 with
 |true=>
  replace hF:=z4f hF
  exact WL.o (some 8) (WL.o (some 9) (oA 10 (.bool true) (lW _ (J9 _ _ hF))))
 |false=>
  replace hF:=z50 hF
  exact oA 8 (.int .i64 t1) (oB 9 hF fun t9 hF=>oA 10 (.bool t9) (lW _ (J9 _ _ hF)))
noncomputable def z92(_:z10)(_:Nat)(t0:AV)(t1:Int)(t2:Int)(h:AHeap):R:=obind (z53 t0) fun t9=>obind (z27 96 t9) fun t10=>obind (zc h t10) fun v11=>obind (z17 .i64 v11) fun t11=>lett ((t11:Int) == 0) fun (t12:Bool)=>ifB t12 (some (.ret (.int .i64 40),h)) (lett (decide (t1<0)) fun (t15:Bool)=>lett (fun (t19:Bool) (h_13:AHeap)=>ifB t19 (some (.ret (.int .i64 2),h_13)) (lett ((t2:Int) != 0) fun (t22:Bool)=>ifB t22 (some (.ret (.int .i64 t2),h_13)) (obind (z53 t0) fun t25=>obind (z27 96 t25) fun t26=>obind (zc h_13 t26) fun v27=>obind (z17 .i64 v27) fun t27=>lett (decide (t27>0)) fun (t28:Bool)=>lett (fun (h_28:AHeap)=>obind (z53 t0) fun t39=>obind (z27 97 t39) fun t40=>obind (zc h_28 t40) fun v41=>obind (z17 .i64 v41) fun t41=>lett (IntKind.i64.wrap (t41+1)) fun (t42:Int)=>obind (z53 t0) fun t43=>obind (z27 97 t43) fun t44=>obind (z22 h_28 1 [.int .i64 t42] t44) fun h_37=>some (.ret (.int .i64 0),h_37)) fun k27=>ifB t28 (obind (z53 t0) fun t31=>obind (z27 96 t31) fun t32=>obind (zc h_13 t32) fun v33=>obind (z17 .i64 v33) fun t33=>lett (IntKind.i64.wrap (t33 - 1)) fun (t34:Int)=>obind (z53 t0) fun t35=>obind (z27 96 t35) fun t36=>obind (z22 h_13 1 [.int .i64 t34] t36) fun h_47=>k27 h_47) (k27 h_13)))) fun j19=>ifB t15 (j19 true h) (lett (decide (t1≥32)) fun (t18:Bool)=>j19 t18 h))
set_option maxHeartbeats 4000000 in
set_option maxRecDepth 20000 in
theorem z216{call:z10}(_:SaysAll Try.prog call){n:Nat}{t0:AV}{t1:Int}{t2:Int}{h:AHeap}{rR:ARes}{hR:AHeap}(hF:z92 call n t0 t1 t2 h=some (rR,hR)):Says Try.prog 52 [t0,.int .i64 t1,.int .i64 t2] h rR hR:=by
 unfold z92 at hF;refine sO Try.func52 fun w0 m0=>wW [(0,t0),(1,.int .i64 t1),(2,.int .i64 t2)] (oG fun n1=>W.r (oA 6 (.int .i64 0) (oV [(0,t0),(1,.int .i64 t1),(2,.int .i64 t2)] (n1 (oH fun n2 q2=>W.blockK (by kernel_rfl) (fun K3 n3 s3 o3 q3 p3=>oG fun n4=>W.r (oA 8 t0 (oC0 9 hF fun t9 hF=>oF 10 68 1 hF fun t10 hF=>oLi 11 3 hF fun t11 hF=>oB 12 hF fun t12 hF=>oA 7 (.bool t12) (oV [(0,t0),(1,.int .i64 t1),(2,.int .i64 t2),(7,.bool t12)] (n4 ?_))))))))))
 cases t12 with
 |true=>
  exact oT hF fun hF=>oG fun n10=>W.r (oA 6 (.int .i64 40) (oV [(6,.int .i64 40)] (n10 (oY (q3 (q2 (lZ hF [.tmp 6] [.int .i64 40] (rT zd))))))))
 |false=>
  refine oU hF fun hF=>W.s (fun K11 n11 e11 q11 p11=>W.r (oA 14 (.int .i64 t1) (oB 15 hF fun t15 hF=>oA 16 (.bool t15) ?_)));obtain⟨j19,e14,hF⟩:=z6 hF
  have J15:∀(t19:Bool) (h_13:AHeap),j19 t19 h_13=some (rR,hR)→WL Try.prog w0 m0 (Func.ntmps Try.f52) (Code.ops (y6 (y5 (y5 (y6 (y6 (y5 (z2a Try.f52)))))))) 6 K11 [(0,t0),(2,.int .i64 t2),(19,.bool t19)] [] h_13:=by
   intro t19 h_13 hF;rw[e14] at hF;refine oA 13 (.bool t19) (oV [(0,t0),(2,.int .i64 t2),(13,.bool t19)] (n11 ?_))
   cases t19 with
   |true=>
    exact oT hF fun hF=>oG fun n16=>W.r (oA 6 (.int .i64 2) (oV [(6,.int .i64 2)] (n16 (oY (q3 (q2 (lZ hF [.tmp 6] [.int .i64 2] (rT zd))))))))
   |false=>
    refine oU hF fun hF=>oG fun n17=>W.r (oA 21 (.int .i64 t2) (oB 22 hF fun t22 hF=>oA 20 (.bool t22) (oV [(0,t0),(2,.int .i64 t2),(20,.bool t22)] (n17 ?_))))
    cases t22 with
    |true=>
     exact oT hF fun hF=>oG fun n19=>W.r (oA 23 (.int .i64 t2) (oA 6 (.int .i64 t2) (oV [(6,.int .i64 t2)] (n19 (oY (q3 (q2 (lZ hF [.tmp 6] [.int .i64 t2] (rT zd)))))))))
    |false=>
     refine oU hF fun hF=>oZ (n3 (n2 (W.s (fun K20 n20 e20 q20 p20=>oG fun n21=>W.r (oA 24 t0 (oC0 25 hF fun t25 hF=>oF 26 68 1 hF fun t26 hF=>oLi 27 3 hF fun t27 hF=>oB 28 hF fun t28 hF=>oV [(0,t0),(28,.bool t28)] (n21 ?_)))))));obtain⟨k27,e27,hF⟩:=z6 hF
     have J27:∀(h_28:AHeap),k27 h_28=some (rR,hR)→Go w0 m0 (Func.ntmps Try.f52) (K20 .normal) [(0,t0)] [] h_28:=by
      intro h_28 hF;rw[e27] at hF;exact n20 (oG fun n29=>W.r (oA 37 t0 (oA 38 t0 (oC0 39 hF fun t39 hF=>oF 40 68 2 hF fun t40 hF=>oLi 41 3 hF fun t41 hF=>oI 42 .i64 hF fun t42 hF=>oC0 43 hF fun t43 hF=>oF 44 68 2 hF fun t44 hF=>oW 3 (.int .i64 t42) hF fun h_37 hF=>oV [] (n29 (oG fun n39=>W.r (oA 6 (.int .i64 0) (oV [(6,.int .i64 0)] (n39 (oY (lZ hF [.tmp 6] [.int .i64 0] (rT zd))))))))))))
     cases t28 with
     |true=>
      exact oT hF fun hF=>W.r (oA 29 t0 (oA 30 t0 (oC0 31 hF fun t31 hF=>oF 32 68 1 hF fun t32 hF=>oLi 33 3 hF fun t33 hF=>oI 34 .i64 hF fun t34 hF=>oC0 35 hF fun t35 hF=>oF 36 68 1 hF fun t36 hF=>oW 3 (.int .i64 t34) hF fun h_47 hF=>oV [(0,t0)] (gW _ (J27 _ hF)))))
     |false=>
      exact oU hF fun hF=>oZ (gW _ (J27 _ hF))
  cases t15 with
  |true=>
   replace hF:=z4f hF
   exact WL.o (some 17) (WL.o (some 18) (oA 19 (.bool true) (lW _ (J15 _ _ hF))))
  |false=>
   replace hF:=z50 hF
   exact oA 17 (.int .i64 t1) (oB 18 hF fun t18 hF=>oA 19 (.bool t18) (lW _ (J15 _ _ hF)))
noncomputable def zd6(call:z10)(v1:AV)(h_4:AHeap)(k16:AHeap→R)(self:Int→AHeap→R)(t4:Int)(h_24:AHeap):R:=obind (z27 2 v1) fun t8=>obind (zc h_24 t8) fun v9=>obind (z12d v9) fun t10=>lett (decide (t4<t10)) fun (t11:Bool)=>ifB t11 (obind (z2c h_24 2 (z13 h_4)) fun t14=>obind (z27 2 v1) fun t15=>obind (zc h_24 t15) fun v16=>obind (z150 3 v16 t4) fun t18=>obind (z2c h_24 3 t18) fun t19=>callN (call 48 [.agg t14,.agg t19] h_24) fun r20 h_38=>obind (z146 r20) fun t20=>obind (z22 h_38 2 t20 (z13 h_4)) fun h_41=>lett (IntKind.i64.wrap (t4+1)) fun (t13:Int)=>self t13 h_41) (k16 h_24)
noncomputable def z102(call:z10)(v1:AV)(h_4:AHeap)(k16:AHeap→R):Nat→Int→AHeap→R:=z122 (fun _ _=>none) (zd6 call v1 h_4 k16)
theorem z15c(call:z10)(v1:AV)(h_4:AHeap)(k16:AHeap→R)(m:Nat):z102 call v1 h_4 k16 (m+1)=zd6 call v1 h_4 k16 (z102 call v1 h_4 k16 m):=rfl
noncomputable def z11c(call:z10)(n:Nat)(t0:List AV)(h:AHeap):R:=outK (zd9 h 65 (some (.agg t0))) fun v1 h_2=>lett (newH h_2 62 [.bool false,.str 0 0]) fun h_4=>obind (z27 0 v1) fun t5=>obind (z2c h_4 2 t5) fun t6=>lett (newH h_4 62 [.bool false,.str 0 0]) fun h_9=>obind (z22 h_9 2 t6 (z13 h_4)) fun h_11=>lett (fun (h_17:AHeap)=>obind (z2c h_17 2 (z13 h_4)) fun t21=>obind (z22 h_17 2 t21 (z13 h_2)) fun h_20=>obind (z2c h_20 2 (z13 h_2)) fun w2=>some (.ret (.agg w2),h_20)) fun k16=>z102 call v1 h_4 k16 n 0 h_11
set_option maxHeartbeats 4000000 in
set_option maxRecDepth 20000 in
theorem z347{call:z10}(hc:SaysAll Try.prog call){n:Nat}{t0:List AV}{h:AHeap}{rR:ARes}{hR:AHeap}(hF:z11c call n t0 h=some (rR,hR)):Says Try.prog 67 [.agg t0] h rR hR:=by
 unfold z11c at hF;refine sO Try.func67 fun w0 m0=>wW [(0,.agg t0)] (oG fun n1=>W.r (oK 1 hF fun v1 h_2 hF=>oN 2 hF fun h_4 hF=>oV [(1,v1),(2,(z13 h_2))] (n1 (oG fun n6=>W.r (oF 5 65 0 hF fun t5 hF=>oR 6 62 hF fun t6 hF=>oN 3 hF fun h_9 hF=>oW 62 (.agg t6) hF fun h_11 hF=>oV [(1,v1),(2,(z13 h_2)),(3,(z13 h_4))] (n6 (W.s (fun K13 n13 e13 q13 p13=>oG fun n14=>W.r (oA 4 (.int .i64 0) (oV [(1,v1),(2,(z13 h_2)),(3,(z13 h_4)),(4,.int .i64 0)] (n14 ?_)))))))))));obtain⟨k16,e16,hF⟩:=z6 hF
 have J16:∀(h_17:AHeap),k16 h_17=some (rR,hR)→Go w0 m0 (Func.ntmps Try.f67) (K13 .normal) [(2,(z13 h_2)),(3,(z13 h_4))] [] h_17:=by
  intro h_17 hF;rw[e16] at hF;refine n13 (oG fun n18=>W.r (oR 21 62 hF fun t21 hF=>oW 62 (.agg t21) hF fun h_20 hF=>oV [(2,(z13 h_2))] (n18 (oY ?_))));obtain⟨w2,e22,hF⟩:=z4 hF;exact lZ hF [.cell 2 62] [.agg w2] (rY e22 zd)
 refine W.blockK (by kernel_rfl) (fun K15 n15 s15 o15 q15 p15=>W.loopK (by kernel_rfl) (fun I23 K23 b23 n23 e23 q23 p23=>?_))
 have L23:∀(m:Nat) (t4:Int) (h_24:AHeap),z102 call v1 h_4 k16 m t4 h_24=some (rR,hR)→Go w0 m0 (Func.ntmps Try.f67) I23 [(1,v1),(2,(z13 h_2)),(3,(z13 h_4)),(4,.int .i64 t4)] [] h_24:=by
  intro m
  induction m with
  |zero=>intro t4 h_24 hF;cases hF
  |succ m ih23=>
   intro t4 h_24 hF;rw[z15c] at hF;unfold zd6 at hF;refine b23 (W.s (fun K25 n25 e25 q25 p25=>oG fun n26=>W.r (oA 7 (.int .i64 t4) (oF 8 65 1 hF fun t8 hF=>oL 9 63 hF fun v9 hF=>oM 10 63 75 hF fun t10 hF=>oB 11 hF fun t11 hF=>oV [(1,v1),(2,(z13 h_2)),(3,(z13 h_4)),(4,.int .i64 t4),(11,.bool t11)] (n26 ?_)))))
   cases t11 with
   |true=>
    refine oT hF fun hF=>oZ (n25 (oG fun n31=>W.blockK (by kernel_rfl) (fun K32 n32 s32 o32 q32 p32=>W.draw (by kernel_rfl) (hc.ok w0) (plan:=[0,1,2,3,4,5,6,7]) (by kernel_rfl) (by kernel_rfl) (by kernel_rfl) ?_)));obtain⟨t14,e33,hF⟩:=z4 hF;refine WD.b 1 (some 14) (.agg t14) h_24 (z64 (P:=Try.prog) (h:=h_24) (t:=62) (by kernel_rfl) (by kernel_rfl) e33) ?_;obtain⟨t15,e34,hF⟩:=z4 hF;refine WD.b 0 (some 15) t15 h_24 (z15 (P:=Try.prog) (h:=h_24) (s:=65) (f:=1) (by kernel_rfl) e34) ?_;obtain⟨v16,e35,hF⟩:=z4 hF;refine WD.b 1 (some 16) v16 h_24 (z14 (P:=Try.prog) (h:=h_24) (t:=63) (by kernel_rfl) e35) (WD.a 0 (some 17) (.int .i64 t4) h_24 ?_);obtain⟨t18,e36,hF⟩:=z4 hF;refine WD.b 0 (some 18) t18 h_24 (z180 (P:=Try.prog) (h:=h_24) (t:=63) (e':=75) (k:=.i64) (by kernel_rfl) (by kernel_rfl) (by kernel_rfl) e36) ?_;obtain⟨t19,e37,hF⟩:=z4 hF;refine WD.b 1 (some 19) (.agg t19) h_24 (z64 (P:=Try.prog) (h:=h_24) (t:=75) (by kernel_rfl) (by kernel_rfl) e37) ?_
    replace hF:=z18 hF;obtain⟨r20,h_38,e39,hF⟩:=hF
    replace hF:=z4 hF;obtain⟨t20,c40,hF⟩:=hF
    have c40:=zcb c40;subst c40;refine WD.call (d:=(some 20)) (by kernel_rfl) (by kernel_rfl) (by kernel_rfl) e39 (k:=2) (by kernel_rfl) (fun _=>(by kernel_rfl)) (by decide) ?_;obtain⟨h_41,e42,hF⟩:=z4 hF;exact WD.eff (h':=h_41) (by kernel_rfl) (by kernel_rfl) (Eq.trans (by kernel_rfl) (z55 (P:=Try.prog) (h:=h_38) (t:=62) (v:=(.agg t20)) (by kernel_rfl) (by kernel_rfl) e42)) (k:=2) (by kernel_rfl) (fun _=>(by kernel_rfl)) (by decide) (WD.nil (gW [(1,v1),(2,(z13 h_2)),(3,(z13 h_4)),(4,.int .i64 t4)] (n32 (n31 (W.r (oA 12 (.int .i64 t4) (oI 13 .i64 hF fun t13 hF=>oA 4 (.int .i64 t13) (oV [(1,v1),(2,(z13 h_2)),(3,(z13 h_4)),(4,.int .i64 t13)] (n23 (gW _ (ih23 _ _ hF)))))))))))
   |false=>
    exact oU hF fun hF=>W.exit (by kernel_rfl) (e25 (e23 (s15 (by kernel_rfl) (gW _ (J16 _ hF)))))
 exact gW _ (L23 _ _ _ hF)
noncomputable def z11d(_:z10)(_:Nat)(t0:List AV)(t1:List AV)(h:AHeap):R:=outK (zd9 h 62 (some (.agg t0))) fun v2 h_2=>outK (zd9 h_2 75 (some (.agg t1))) fun v3 h_4=>lett (newH h_4 62 [.bool false,.str 0 0]) fun h_6=>obind (z27 0 v3) fun t5=>obind (zc h_6 t5) fun v6=>obind (z17 .i64 v6) fun t6=>lett ((t6:Int) == 1) fun (t8:Bool)=>ifB t8 (obind (z27 1 v2) fun t9=>obind (zc h_6 t9) fun v10=>obind (z20 v10) fun t10=>obind (z27 1 v3) fun t11=>obind (zc h_6 t11) fun v12=>obind (z20 v12) fun t12=>obind (z37b t10 t12) fun t13=>obind (z22 h_6 2 ([.bool true,z5 t13]:List AV) (z13 h_4)) fun h_24=>obind (z2c h_24 2 (z13 h_4)) fun w4=>some (.ret (.agg w4),h_24)) (lett ((t6:Int) == 2) fun (t16:Bool)=>ifB t16 (obind (z27 1 v2) fun t17=>obind (zc h_6 t17) fun v18=>obind (z20 v18) fun t18=>obind (z27 2 v3) fun t19=>obind (zc h_6 t19) fun v20=>obind (z17 .i64 v20) fun t20=>obind (z43 t18 0 t20) fun t21=>obind (z22 h_6 2 ([.bool true,z5 t21]:List AV) (z13 h_4)) fun h_37=>obind (z2c h_37 2 (z13 h_4)) fun w4_40=>some (.ret (.agg w4_40),h_37)) (obind (z22 h_6 2 ([.bool false,.str 0 0]:List AV) (z13 h_4)) fun h_42=>obind (z2c h_42 2 (z13 h_4)) fun w4_45=>some (.ret (.agg w4_45),h_42)))
set_option maxHeartbeats 4000000 in
set_option maxRecDepth 20000 in
theorem z348{call:z10}(_:SaysAll Try.prog call){n:Nat}{t0:List AV}{t1:List AV}{h:AHeap}{rR:ARes}{hR:AHeap}(hF:z11d call n t0 t1 h=some (rR,hR)):Says Try.prog 48 [.agg t0,.agg t1] h rR hR:=by
 unfold z11d at hF;refine sO Try.func48 fun w0 m0=>wW [(0,.agg t0),(1,.agg t1)] (oG fun n1=>W.r (oK 2 hF fun v2 h_2 hF=>oK 3 hF fun v3 h_4 hF=>oN 4 hF fun h_6 hF=>oV [(2,v2),(3,v3),(4,(z13 h_4))] (n1 (oH fun n8 q8=>oG fun n9=>W.r (oF 5 75 0 hF fun t5 hF=>oLi 6 3 hF fun t6 hF=>oV [(2,v2),(3,v3),(4,(z13 h_4)),(6,.int .i64 t6)] (n9 (W.blockK (by kernel_rfl) (fun K13 n13 s13 o13 q13 p13=>oG fun n14=>W.r (oB 8 hF fun t8 hF=>oA 7 (.bool t8) (oV [(2,v2),(3,v3),(4,(z13 h_4)),(6,.int .i64 t6),(7,.bool t8)] (n14 ?_)))))))))))
 cases t8 with
 |true=>
  refine oT hF fun hF=>oG fun n16=>W.r (oF 9 62 1 hF fun t9 hF=>oLs 10 9 hF fun t10 hF=>oF 11 75 1 hF fun t11 hF=>oLs 12 9 hF fun t12 hF=>?_);obtain⟨t13,e23,hF⟩:=z4 hF;refine WL.b (some 13) (z5 t13) h_6 (z110 (P:=Try.prog) (h:=h_6) (t:=9) (lit:=false) e23) (oA 14 (.agg ([.bool true,z5 t13]:List AV)) (oW 62 (.agg ([.bool true,z5 t13]:List AV)) hF fun h_24 hF=>oV [(4,(z13 h_4))] (n16 (oY (q13 (q8 ?_))))));obtain⟨w4,e26,hF⟩:=z4 hF;exact lZ hF [.cell 4 62] [.agg w4] (rY e26 zd)
 |false=>
  refine oU hF fun hF=>oG fun n27=>W.r (oB 16 hF fun t16 hF=>oA 15 (.bool t16) (oV [(2,v2),(3,v3),(4,(z13 h_4)),(15,.bool t16)] (n27 ?_)))
  cases t16 with
  |true=>
   refine oT hF fun hF=>oG fun n29=>W.r (oF 17 62 1 hF fun t17 hF=>oLs 18 9 hF fun t18 hF=>oF 19 75 2 hF fun t19 hF=>oLi 20 3 hF fun t20 hF=>?_);obtain⟨t21,e36,hF⟩:=z4 hF;refine WL.b (some 21) (z5 t21) h_6 (z48 (P:=Try.prog) (h:=h_6) (t:=9) (A:=none) (B:=(some (.int .i64 t20))) (by kernel_rfl) (.inr ⟨rfl,rfl⟩) (.inl ⟨_,rfl⟩) e36) (oA 22 (.agg ([.bool true,z5 t21]:List AV)) (oW 62 (.agg ([.bool true,z5 t21]:List AV)) hF fun h_37 hF=>oV [(4,(z13 h_4))] (n29 (oY (q13 (q8 ?_))))));obtain⟨w4_40,e39,hF⟩:=z4 hF;exact lZ hF [.cell 4 62] [.agg w4_40] (rY e39 zd)
  |false=>
   refine oU hF fun hF=>oZ (n13 (n8 (oG fun n41=>W.r (oA 23 (.agg ([.bool false,.str 0 0]:List AV)) (oW 62 (.agg ([.bool false,.str 0 0]:List AV)) hF fun h_42 hF=>oV [(4,(z13 h_4))] (n41 (oY ?_)))))));obtain⟨w4_45,e44,hF⟩:=z4 hF;exact lZ hF [.cell 4 62] [.agg w4_45] (rY e44 zd)
noncomputable def z12c(call:z10)(t0:Bytes)(self:AV→Int→AHeap→R)(t4:AV)(t5:Int)(h_6:AHeap):R:=obind (z43 t0 t5 (z3b t0)) fun t12=>callN (call 85 [z5 t12] h_6) fun r13 h_10=>obind (z166 0 r13) fun v14=>obind (z20 v14) fun t14=>obind (z166 1 r13) fun v15=>obind (z17 .i64 v15) fun t15=>obind (z166 2 r13) fun v16=>obind (z17 .i64 v16) fun t16=>lett ((t16:Int) != 0) fun (t18:Bool)=>ifB t18 (some (.ret (.tup [t4,.int .i64 t5]),h_10)) (outK (z1df Try.prog h_10 81 1 [(0,z5 t14)]) fun v23 h_23=>outK (z34 Try.prog h_23 81 81 t4 v23) fun v24 h_25=>lett (IntKind.i64.wrap (t5+t15)) fun (t27:Int)=>self v24 t27 h_25)
noncomputable def z103(call:z10)(t0:Bytes):Nat→AV→Int→AHeap→R:=z122 (fun _ _ _=>none) (z12c call t0)
theorem z1b5(call:z10)(t0:Bytes)(m:Nat):z103 call t0 (m+1)=z12c call t0 (z103 call t0 m):=rfl
noncomputable def z14d(call:z10)(n:Nat)(t0:Bytes)(h:AHeap):R:=z103 call t0 n AV.nsl 0 h
set_option maxHeartbeats 4000000 in
set_option maxRecDepth 20000 in
theorem z34a{call:z10}(hc:SaysAll Try.prog call){n:Nat}{t0:Bytes}{h:AHeap}{rR:ARes}{hR:AHeap}(hF:z14d call n t0 h=some (rR,hR)):Says Try.prog 70 [z5 t0] h rR hR:=by
 unfold z14d at hF;refine sO Try.func70 fun w0 m0=>wW [(0,z5 t0)] (oG fun n1=>W.r (oA 2 AV.nsl (oA 3 (.int .i64 0) (oV [(0,z5 t0)] (n1 (oG fun n2=>W.r (oA 4 AV.nsl (oV [(0,z5 t0),(4,AV.nsl)] (n2 (oG fun n3=>W.r (oA 5 (.int .i64 0) (oV [(0,z5 t0),(4,AV.nsl),(5,.int .i64 0)] (n3 (W.blockK (by kernel_rfl) (fun K4 n4 s4 o4 q4 p4=>W.loopK (by kernel_rfl) (fun I5 K5 b5 n5 e5 q5 p5=>?_))))))))))))))))
 have L5:∀(m:Nat) (t4:AV) (t5:Int) (h_6:AHeap),z103 call t0 m t4 t5 h_6=some (rR,hR)→Go w0 m0 (Func.ntmps Try.f70) I5 [(0,z5 t0),(4,t4),(5,.int .i64 t5)] [] h_6:=by
  intro m
  induction m with
  |zero=>intro t4 t5 h_6 hF;cases hF
  |succ m ih5=>
   intro t4 t5 h_6 hF;rw[z1b5] at hF;unfold z12c at hF;refine b5 (W.blockK (by kernel_rfl) (fun K7 n7 s7 o7 q7 p7=>oG fun n8=>W.r (oA 10 (z5 t0) (oA 11 (.int .i64 t5) ?_))));obtain⟨t12,e9,hF⟩:=z4 hF;refine WL.b (some 12) (z5 t12) h_6 (z48 (P:=Try.prog) (h:=h_6) (t:=9) (A:=(some (.int .i64 t5))) (B:=none) (by kernel_rfl) (.inl ⟨_,rfl⟩) (.inr ⟨rfl,rfl⟩) e9) (oC hc (some 13) hF fun r13 h_10 hF=>oA 9 r13 (oEs 14 hF fun t14 hF=>oEi 15 hF fun t15 hF=>oEi 16 hF fun t16 hF=>oA 6 (z5 t14) (oA 7 (.int .i64 t15) (oA 8 (.int .i64 t16) (oV [(0,z5 t0),(4,t4),(5,.int .i64 t5),(6,z5 t14),(7,.int .i64 t15),(8,.int .i64 t16)] (n8 (oH fun n18 q18=>oG fun n19=>W.r (oA 17 (.int .i64 t16) (oB 18 hF fun t18 hF=>oV [(0,z5 t0),(4,t4),(5,.int .i64 t5),(6,z5 t14),(7,.int .i64 t15),(18,.bool t18)] (n19 ?_))))))))))
   cases t18 with
   |true=>
    exact oT hF fun hF=>oG fun n21=>W.r (oA 19 t4 (oA 20 (.int .i64 t5) (oA 2 t4 (oA 3 (.int .i64 t5) (oV [(2,t4),(3,.int .i64 t5)] (n21 (oY (q18 (q7 (q5 (q4 (lZ hF [.tmp 2,.tmp 3] [t4,.int .i64 t5] (rT (rT zd))))))))))))))
   |false=>
    exact oU hF fun hF=>oZ (n18 (oG fun n22=>W.r (oA 21 t4 (oA 22 (z5 t14) (oK 23 hF fun v23 h_23 hF=>oK 24 hF fun v24 h_25 hF=>oA 4 v24 (oV [(0,z5 t0),(4,v24),(5,.int .i64 t5),(7,.int .i64 t15)] (n22 (W.r (oA 25 (.int .i64 t5) (oA 26 (.int .i64 t15) (oI 27 .i64 hF fun t27 hF=>oA 5 (.int .i64 t27) (oV [(0,z5 t0),(4,v24),(5,.int .i64 t27)] (n7 (n5 (gW _ (ih5 _ _ _ hF))))))))))))))))
 exact gW _ (L5 _ _ _ _ hF)
noncomputable def z14c(call:z10)(_:Nat)(t0:Bytes)(h:AHeap):R:=lett (decide ((z3b t0)<8)) fun (t9:Bool)=>ifB t9 (some (.ret (.tup [z5 ([]:Bytes),.int .i64 0,.int .i64 30]),h)) (obind (z3c1 t0 0) fun t11=>lett (IntKind.i64.wrap t11) fun (t12:Int)=>lett (IntKind.i64.wrap (t12*16777216)) fun (t13:Int)=>obind (z3c1 t0 1) fun t15=>lett (IntKind.i64.wrap t15) fun (t16:Int)=>lett (IntKind.i64.wrap (t16*65536)) fun (t17:Int)=>lett (IntKind.i64.wrap (t13+t17)) fun (t18:Int)=>obind (z3c1 t0 2) fun t20=>lett (IntKind.i64.wrap t20) fun (t21:Int)=>lett (IntKind.i64.wrap (t21*256)) fun (t22:Int)=>lett (IntKind.i64.wrap (t18+t22)) fun (t23:Int)=>obind (z3c1 t0 3) fun t25=>lett (IntKind.i64.wrap t25) fun (t26:Int)=>lett (IntKind.i64.wrap (t23+t26)) fun (t27:Int)=>lett (fun (t39:Bool) (h_24:AHeap)=>ifB t39 (some (.ret (.tup [z5 ([]:Bytes),.int .i64 0,.int .i64 7]),h_24)) (lett (IntKind.i64.wrap (t27+12)) fun (t43:Int)=>lett (decide ((z3b t0)<t43)) fun (t44:Bool)=>ifB t44 (some (.ret (.tup [z5 ([]:Bytes),.int .i64 0,.int .i64 30]),h_24)) (lett (IntKind.i64.wrap (8+t27)) fun (t47:Int)=>obind (z43 t0 8 t47) fun t48=>lett (IntKind.i64.wrap (t27+12)) fun (t53:Int)=>obind (z43 t0 0 t53) fun t54=>callN (call 68 [z5 t48] h_24) fun r50 h_38=>obind (z20 r50) fun t50=>lett (!eqS t50 t54) fun (t55:Bool)=>ifB t55 (some (.ret (.tup [z5 ([]:Bytes),.int .i64 0,.int .i64 7]),h_38)) (lett (IntKind.i64.wrap (t27+12)) fun (t58:Int)=>some (.ret (.tup [z5 t48,.int .i64 t58,.int .i64 0]),h_38))))) fun k23=>lett (decide (t27>4096)) fun (t29:Bool)=>ifB t29 (k23 true h) (obind (z43 t0 0 4) fun t32=>obind (z43 t0 4 8) fun t37=>callN (call 84 [z5 t32] h) fun r33 h_48=>obind (z17 .u32 r33) fun t33=>lett (IntKind.u64.wrap t33) fun (t34:Int)=>callN (call 69 [.int .u64 t34,.int .i64 4] h_48) fun r35 h_52=>obind (z20 r35) fun t35=>lett (!eqS t35 t37) fun (t38:Bool)=>k23 t38 h_52))
set_option maxHeartbeats 4000000 in
set_option maxRecDepth 20000 in
theorem z349{call:z10}(hc:SaysAll Try.prog call){n:Nat}{t0:Bytes}{h:AHeap}{rR:ARes}{hR:AHeap}(hF:z14c call n t0 h=some (rR,hR)):Says Try.prog 85 [z5 t0] h rR hR:=by
 unfold z14c at hF;refine sO Try.func85 fun w0 m0=>wW [(0,z5 t0)] (oG fun n1=>W.r (oA 2 (z5 ([]:Bytes)) (oA 3 (.int .i64 0) (oA 4 (.int .i64 0) (oV [(0,z5 t0)] (n1 (oH fun n2 q2=>oG fun n3=>W.r (oA 7 (z5 t0) (oA 8 (.int .i64 (z3b t0)) (oB 9 hF fun t9 hF=>oV [(0,z5 t0),(9,.bool t9)] (n3 ?_)))))))))))
 cases t9 with
 |true=>
  exact oT hF fun hF=>oG fun n5=>W.r (oA 2 (z5 ([]:Bytes)) (oA 3 (.int .i64 0) (oA 4 (.int .i64 30) (oV [(2,z5 ([]:Bytes)),(3,.int .i64 0),(4,.int .i64 30)] (n5 (oY (q2 (lZ hF [.tmp 2,.tmp 3,.tmp 4] [z5 ([]:Bytes),.int .i64 0,.int .i64 30] (rT (rT (rT zd)))))))))))
 |false=>
  refine oU hF fun hF=>oZ (n2 (oG fun n6=>W.draw (by kernel_rfl) (hc.ok w0) (plan:=[0,1,2,3,4,5,6,7,8,9,10,11,12,13,14,15,16,17,18]) (by kernel_rfl) (by kernel_rfl) (by kernel_rfl) (WD.a 0 (some 10) (z5 t0) h ?_)));obtain⟨t11,e7,hF⟩:=z4 hF;refine WD.b 0 (some 11) (.int .u8 t11) h (z17f (P:=Try.prog) (h:=h) (t:=9) (k:=.i64) (by kernel_rfl) e7) ?_;obtain⟨t12,e8,hF⟩:=z6 hF;refine WD.val (d:=(some 12)) (v:=.int .i64 t12) (h':=h) (by kernel_rfl) (by kernel_rfl) (z38 (AV.int .i64) e8 (by kernel_rfl)) (k:=0) (by kernel_rfl) (fun e=>absurd e (by decide)) (by decide) ?_;obtain⟨t13,e9,hF⟩:=z6 hF;refine WD.val (d:=(some 13)) (v:=.int .i64 t13) (h':=h) (by kernel_rfl) (by kernel_rfl) (z38 (AV.int .i64) e9 (by kernel_rfl)) (k:=0) (by kernel_rfl) (fun e=>absurd e (by decide)) (by decide) (WD.a 0 (some 14) (z5 t0) h ?_);obtain⟨t15,e10,hF⟩:=z4 hF;refine WD.b 0 (some 15) (.int .u8 t15) h (z17f (P:=Try.prog) (h:=h) (t:=9) (k:=.i64) (by kernel_rfl) e10) ?_;obtain⟨t16,e11,hF⟩:=z6 hF;refine WD.val (d:=(some 16)) (v:=.int .i64 t16) (h':=h) (by kernel_rfl) (by kernel_rfl) (z38 (AV.int .i64) e11 (by kernel_rfl)) (k:=0) (by kernel_rfl) (fun e=>absurd e (by decide)) (by decide) ?_;obtain⟨t17,e12,hF⟩:=z6 hF;refine WD.val (d:=(some 17)) (v:=.int .i64 t17) (h':=h) (by kernel_rfl) (by kernel_rfl) (z38 (AV.int .i64) e12 (by kernel_rfl)) (k:=0) (by kernel_rfl) (fun e=>absurd e (by decide)) (by decide) ?_;obtain⟨t18,e13,hF⟩:=z6 hF;refine WD.val (d:=(some 18)) (v:=.int .i64 t18) (h':=h) (by kernel_rfl) (by kernel_rfl) (z38 (AV.int .i64) e13 (by kernel_rfl)) (k:=0) (by kernel_rfl) (fun e=>absurd e (by decide)) (by decide) (WD.a 0 (some 19) (z5 t0) h ?_);obtain⟨t20,e14,hF⟩:=z4 hF;refine WD.b 0 (some 20) (.int .u8 t20) h (z17f (P:=Try.prog) (h:=h) (t:=9) (k:=.i64) (by kernel_rfl) e14) ?_;obtain⟨t21,e15,hF⟩:=z6 hF;refine WD.val (d:=(some 21)) (v:=.int .i64 t21) (h':=h) (by kernel_rfl) (by kernel_rfl) (z38 (AV.int .i64) e15 (by kernel_rfl)) (k:=0) (by kernel_rfl) (fun e=>absurd e (by decide)) (by decide) ?_;obtain⟨t22,e16,hF⟩:=z6 hF;refine WD.val (d:=(some 22)) (v:=.int .i64 t22) (h':=h) (by kernel_rfl) (by kernel_rfl) (z38 (AV.int .i64) e16 (by kernel_rfl)) (k:=0) (by kernel_rfl) (fun e=>absurd e (by decide)) (by decide) ?_;obtain⟨t23,e17,hF⟩:=z6 hF;refine WD.val (d:=(some 23)) (v:=.int .i64 t23) (h':=h) (by kernel_rfl) (by kernel_rfl) (z38 (AV.int .i64) e17 (by kernel_rfl)) (k:=0) (by kernel_rfl) (fun e=>absurd e (by decide)) (by decide) (WD.a 0 (some 24) (z5 t0) h ?_);obtain⟨t25,e18,hF⟩:=z4 hF;refine WD.b 0 (some 25) (.int .u8 t25) h (z17f (P:=Try.prog) (h:=h) (t:=9) (k:=.i64) (by kernel_rfl) e18) ?_;obtain⟨t26,e19,hF⟩:=z6 hF;refine WD.val (d:=(some 26)) (v:=.int .i64 t26) (h':=h) (by kernel_rfl) (by kernel_rfl) (z38 (AV.int .i64) e19 (by kernel_rfl)) (k:=0) (by kernel_rfl) (fun e=>absurd e (by decide)) (by decide) ?_;obtain⟨t27,e20,hF⟩:=z6 hF;refine WD.val (d:=(some 27)) (v:=.int .i64 t27) (h':=h) (by kernel_rfl) (by kernel_rfl) (z38 (AV.int .i64) e20 (by kernel_rfl)) (k:=0) (by kernel_rfl) (fun e=>absurd e (by decide)) (by decide) (WD.a 0 (some 5) (.int .i64 t27) h (WD.nil (gW [(0,z5 t0),(5,.int .i64 t27)] (n6 (oH fun n21 q21=>W.s (fun K22 n22 e22 q22 p22=>?_))))));obtain⟨k23,e23,hF⟩:=z6 hF
  have J23:∀(t39:Bool) (h_24:AHeap),k23 t39 h_24=some (rR,hR)→Go w0 m0 (Func.ntmps Try.f85) (K22 .normal) [(0,z5 t0),(5,.int .i64 t27),(39,.bool t39)] [] h_24:=by
   intro t39 h_24 hF;rw[e23] at hF;refine n22 ?_
   cases t39 with
   |true=>
    exact oT hF fun hF=>oG fun n25=>W.r (oA 2 (z5 ([]:Bytes)) (oA 3 (.int .i64 0) (oA 4 (.int .i64 7) (oV [(2,z5 ([]:Bytes)),(3,.int .i64 0),(4,.int .i64 7)] (n25 (oY (q21 (lZ hF [.tmp 2,.tmp 3,.tmp 4] [z5 ([]:Bytes),.int .i64 0,.int .i64 7] (rT (rT (rT zd)))))))))))
   |false=>
    refine oU hF fun hF=>oZ (n21 (oH fun n26 q26=>oG fun n27=>W.r (oA 40 (z5 t0) (oA 41 (.int .i64 (z3b t0)) (oA 42 (.int .i64 t27) (oI 43 .i64 hF fun t43 hF=>oB 44 hF fun t44 hF=>oV [(0,z5 t0),(5,.int .i64 t27),(44,.bool t44)] (n27 ?_)))))))
    cases t44 with
    |true=>
     exact oT hF fun hF=>oG fun n30=>W.r (oA 2 (z5 ([]:Bytes)) (oA 3 (.int .i64 0) (oA 4 (.int .i64 30) (oV [(2,z5 ([]:Bytes)),(3,.int .i64 0),(4,.int .i64 30)] (n30 (oY (q26 (lZ hF [.tmp 2,.tmp 3,.tmp 4] [z5 ([]:Bytes),.int .i64 0,.int .i64 30] (rT (rT (rT zd)))))))))))
    |false=>
     refine oU hF fun hF=>oZ (n26 (oG fun n31=>W.r (oA 45 (z5 t0) (oA 46 (.int .i64 t27) (oI 47 .i64 hF fun t47 hF=>?_)))));obtain⟨t48,e33,hF⟩:=z4 hF;refine WL.b (some 48) (z5 t48) h_24 (z48 (P:=Try.prog) (h:=h_24) (t:=9) (A:=(some (.int .i64 8))) (B:=(some (.int .i64 t47))) (by kernel_rfl) (.inl ⟨_,rfl⟩) (.inl ⟨_,rfl⟩) e33) (oA 6 (z5 t48) (oV [(0,z5 t0),(5,.int .i64 t27),(6,z5 t48)] (n31 (oH fun n34 q34=>oG fun n35=>W.draw (by kernel_rfl) (hc.ok w0) (plan:=[0,2,3,4,5,1,6]) (by kernel_rfl) (by kernel_rfl) (by kernel_rfl) (WD.a 0 (some 49) (z5 t48) h_24 (WD.a 0 (some 51) (z5 t0) h_24 (WD.a 0 (some 52) (.int .i64 t27) h_24 ?_)))))));obtain⟨t53,e36,hF⟩:=z6 hF;refine WD.val (d:=(some 53)) (v:=.int .i64 t53) (h':=h_24) (by kernel_rfl) (by kernel_rfl) (z38 (AV.int .i64) e36 (by kernel_rfl)) (k:=0) (by kernel_rfl) (fun e=>absurd e (by decide)) (by decide) ?_;obtain⟨t54,e37,hF⟩:=z4 hF;refine WD.b 0 (some 54) (z5 t54) h_24 (z48 (P:=Try.prog) (h:=h_24) (t:=9) (A:=none) (B:=(some (.int .i64 t53))) (by kernel_rfl) (.inr ⟨rfl,rfl⟩) (.inl ⟨_,rfl⟩) e37) ?_
     replace hF:=z18 hF;obtain⟨r50,h_38,e39,hF⟩:=hF
     replace hF:=z4 hF;obtain⟨t50,c40,hF⟩:=hF
     have c40:=z19 c40;subst c40;refine WD.call (d:=(some 50)) (by kernel_rfl) (by kernel_rfl) (by kernel_rfl) e39 (k:=2) (by kernel_rfl) (fun _=>(by kernel_rfl)) (by decide) ?_;obtain⟨t55,e41,hF⟩:=z6 hF;refine WD.val (d:=(some 55)) (v:=.bool t55) (h':=h_38) (by kernel_rfl) (by kernel_rfl) (z38 AV.bool e41 (by kernel_rfl)) (k:=0) (by kernel_rfl) (fun e=>absurd e (by decide)) (by decide) (WD.nil (gW [(5,.int .i64 t27),(6,z5 t48),(55,.bool t55)] (n35 ?_)))
     cases t55 with
     |true=>
      exact oT hF fun hF=>oG fun n42=>W.r (oA 2 (z5 ([]:Bytes)) (oA 3 (.int .i64 0) (oA 4 (.int .i64 7) (oV [(2,z5 ([]:Bytes)),(3,.int .i64 0),(4,.int .i64 7)] (n42 (oY (q34 (lZ hF [.tmp 2,.tmp 3,.tmp 4] [z5 ([]:Bytes),.int .i64 0,.int .i64 7] (rT (rT (rT zd)))))))))))
     |false=>
      exact oU hF fun hF=>oZ (n34 (oG fun n43=>W.r (oA 56 (z5 t48) (oA 57 (.int .i64 t27) (oI 58 .i64 hF fun t58 hF=>oA 2 (z5 t48) (oA 3 (.int .i64 t58) (oA 4 (.int .i64 0) (oV [(2,z5 t48),(3,.int .i64 t58),(4,.int .i64 0)] (n43 (oY (lZ hF [.tmp 2,.tmp 3,.tmp 4] [z5 t48,.int .i64 t58,.int .i64 0] (rT (rT (rT zd))))))))))))))
  refine W.draw (by kernel_rfl) (hc.ok w0) (plan:=[0,1,2,3,4,8,9,5,6,7,10,11]) (by kernel_rfl) (by kernel_rfl) (by kernel_rfl) (WD.a 0 (some 28) (.int .i64 t27) h ?_);obtain⟨t29,e45,hF⟩:=z6 hF;refine WD.val (d:=(some 29)) (v:=.bool t29) (h':=h) (by kernel_rfl) (by kernel_rfl) (z38 AV.bool e45 (by kernel_rfl)) (k:=0) (by kernel_rfl) (fun e=>absurd e (by decide)) (by decide) (WD.a 0 (some 30) (.bool t29) h ?_)
  cases t29 with
  |true=>
   replace hF:=z4f hF
   exact oD 0 (some 31) (oD 0 (some 32) (oD 0 (some 36) (oD 0 (some 37) (WD.not (d:=(some 33)) (by kernel_rfl) (by kernel_rfl) (k:=2) (by kernel_rfl) (fun _=>(by kernel_rfl)) (by decide) (oD 0 (some 34) (WD.not (d:=(some 35)) (by kernel_rfl) (by kernel_rfl) (k:=2) (by kernel_rfl) (fun _=>(by kernel_rfl)) (by decide) (oD 0 (some 38) (WD.a 0 (some 39) (.bool true) h (WD.nil (gW _ (J23 _ _ hF)))))))))))
  |false=>
   replace hF:=z50 hF
   refine WD.a 0 (some 31) (z5 t0) h ?_;obtain⟨t32,e46,hF⟩:=z4 hF;refine WD.b 0 (some 32) (z5 t32) h (z48 (P:=Try.prog) (h:=h) (t:=9) (A:=none) (B:=(some (.int .i64 4))) (by kernel_rfl) (.inr ⟨rfl,rfl⟩) (.inl ⟨_,rfl⟩) e46) (WD.a 0 (some 36) (z5 t0) h ?_);obtain⟨t37,e47,hF⟩:=z4 hF;refine WD.b 0 (some 37) (z5 t37) h (z48 (P:=Try.prog) (h:=h) (t:=9) (A:=(some (.int .i64 4))) (B:=(some (.int .i64 8))) (by kernel_rfl) (.inl ⟨_,rfl⟩) (.inl ⟨_,rfl⟩) e47) ?_
   replace hF:=z18 hF;obtain⟨r33,h_48,e49,hF⟩:=hF
   replace hF:=z4 hF;obtain⟨t33,c50,hF⟩:=hF
   have c50:=z1a c50;subst c50;refine WD.call (d:=(some 33)) (by kernel_rfl) (by kernel_rfl) (by kernel_rfl) e49 (k:=2) (by kernel_rfl) (fun _=>(by kernel_rfl)) (by decide) ?_;obtain⟨t34,e51,hF⟩:=z6 hF;refine WD.val (d:=(some 34)) (v:=.int .u64 t34) (h':=h_48) (by kernel_rfl) (by kernel_rfl) (z38 (AV.int .u64) e51 (by kernel_rfl)) (k:=0) (by kernel_rfl) (fun e=>absurd e (by decide)) (by decide) ?_
   replace hF:=z18 hF;obtain⟨r35,h_52,e53,hF⟩:=hF
   replace hF:=z4 hF;obtain⟨t35,c54,hF⟩:=hF
   have c54:=z19 c54;subst c54;refine WD.call (d:=(some 35)) (by kernel_rfl) (by kernel_rfl) (by kernel_rfl) e53 (k:=2) (by kernel_rfl) (fun _=>(by kernel_rfl)) (by decide) ?_;obtain⟨t38,e55,hF⟩:=z6 hF;exact WD.val (d:=(some 38)) (v:=.bool t38) (h':=h_52) (by kernel_rfl) (by kernel_rfl) (z38 AV.bool e55 (by kernel_rfl)) (k:=0) (by kernel_rfl) (fun e=>absurd e (by decide)) (by decide) (WD.a 0 (some 39) (.bool t38) h_52 (WD.nil (gW _ (J23 _ _ hF))))
noncomputable def z17c(call:z10)(_:Nat)(t0:Bytes)(h:AHeap):R:=lett (IntKind.u64.wrap (z3b t0)) fun (t6:Int)=>callN (call 69 [.int .u64 t6,.int .i64 4] h) fun r7 h_4=>obind (z20 r7) fun t7=>callN (call 84 [z5 t7] h_4) fun r10 h_8=>obind (z17 .u32 r10) fun t10=>lett (IntKind.u64.wrap t10) fun (t11:Int)=>callN (call 69 [.int .u64 t11,.int .i64 4] h_8) fun r12 h_12=>obind (z20 r12) fun t12=>obind (z37b t7 t12) fun t13=>obind (z37b t13 t0) fun t15=>callN (call 84 [z5 t0] h_12) fun r17 h_17=>obind (z17 .u32 r17) fun t17=>lett (IntKind.u64.wrap t17) fun (t18:Int)=>callN (call 69 [.int .u64 t18,.int .i64 4] h_17) fun r19 h_21=>obind (z20 r19) fun t19=>obind (z37b t15 t19) fun t20=>some (.ret (z5 t20),h_21)
set_option maxHeartbeats 4000000 in
set_option maxRecDepth 20000 in
theorem z3a9{call:z10}(hc:SaysAll Try.prog call){n:Nat}{t0:Bytes}{h:AHeap}{rR:ARes}{hR:AHeap}(hF:z17c call n t0 h=some (rR,hR)):Says Try.prog 68 [z5 t0] h rR hR:=by
 unfold z17c at hF;refine sO Try.func68 fun w0 m0=>wW [(0,z5 t0)] (oG fun n1=>W.r (oA 2 (z5 ([]:Bytes)) (oV [(0,z5 t0)] (n1 (oG fun n2=>W.r (oA 4 (z5 t0) (oA 5 (.int .i64 (z3b t0)) (oI 6 .u64 hF fun t6 hF=>oCs hc 7 hF fun t7 h_4 hF=>oA 3 (z5 t7) (oV [(0,z5 t0),(3,z5 t7)] (n2 (oG fun n7=>W.r (oA 8 (z5 t7) (oA 9 (z5 t7) (oCi hc 10 hF fun t10 h_8 hF=>oI 11 .u64 hF fun t11 hF=>oCs hc 12 hF fun t12 h_12 hF=>?_))))))))))))));obtain⟨t13,e15,hF⟩:=z4 hF;refine WL.b (some 13) (z5 t13) h_12 (z110 (P:=Try.prog) (h:=h_12) (t:=9) (lit:=false) e15) (oA 14 (z5 t0) ?_);obtain⟨t15,e16,hF⟩:=z4 hF;refine WL.b (some 15) (z5 t15) h_12 (z110 (P:=Try.prog) (h:=h_12) (t:=9) (lit:=false) e16) (oA 16 (z5 t0) (oCi hc 17 hF fun t17 h_17 hF=>oI 18 .u64 hF fun t18 hF=>oCs hc 19 hF fun t19 h_21 hF=>?_));obtain⟨t20,e24,hF⟩:=z4 hF;exact WL.b (some 20) (z5 t20) h_21 (z110 (P:=Try.prog) (h:=h_21) (t:=9) (lit:=false) e24) (oA 2 (z5 t20) (oV [(2,z5 t20)] (n7 (oY (lZ hF [.tmp 2] [z5 t20] (rT zd))))))
noncomputable def za3(v8:AV)(k9:AHeap→R)(self:Int→Int→AHeap→R)(t0_16:Int)(t6:Int)(h_17:AHeap):R:=lett (decide (t6≥0)) fun (t12:Bool)=>ifB t12 (obind (remI .u64 t0_16 256) fun t18=>lett (IntKind.u8.wrap t18) fun (t19:Int)=>obind (z150 1 v8 t6) fun t20=>obind (z22 h_17 1 [.int .u8 t19] t20) fun h_27=>obind (z473 .u64 t0_16 256) fun t22=>lett (IntKind.i64.wrap (t6 - 1)) fun (t14:Int)=>self t22 t14 h_27) (k9 h_17)
noncomputable def z94(v8:AV)(k9:AHeap→R):Nat→Int→Int→AHeap→R:=z122 (fun _ _ _=>none) (za3 v8 k9)
theorem z11e(v8:AV)(k9:AHeap→R)(m:Nat):z94 v8 k9 (m+1)=za3 v8 k9 (z94 v8 k9 m):=rfl
noncomputable def zf2(_:z10)(n:Nat)(t0:Int)(t1:Int)(h:AHeap):R:=outK (z11f Try.prog h 46 (some (.int .i64 t1)) (some (.int .i64 t1))) fun v8 h_3=>lett (IntKind.i64.wrap (t1 - 1)) fun (t10:Int)=>lett (fun (h_10:AHeap)=>outK (z7b Try.prog h_10 46 9 (some v8)) fun v24 h_12=>obind (z20 v24) fun t24=>some (.ret (z5 t24),h_12)) fun k9=>z94 v8 k9 n t0 t10 h_3
set_option maxHeartbeats 4000000 in
set_option maxRecDepth 20000 in
theorem z2a7{call:z10}(_:SaysAll Try.prog call){n:Nat}{t0:Int}{t1:Int}{h:AHeap}{rR:ARes}{hR:AHeap}(hF:zf2 call n t0 t1 h=some (rR,hR)):Says Try.prog 69 [.int .u64 t0,.int .i64 t1] h rR hR:=by
 unfold zf2 at hF;refine sO Try.func69 fun w0 m0=>wW [(0,.int .u64 t0),(1,.int .i64 t1)] (oG fun n1=>W.r (oA 4 (z5 ([]:Bytes)) (oV [(0,.int .u64 t0),(1,.int .i64 t1)] (n1 (oG fun n2=>W.r (oA 7 (.int .i64 t1) (oK 8 hF fun v8 h_3 hF=>oA 5 v8 (oV [(0,.int .u64 t0),(1,.int .i64 t1),(5,v8)] (n2 (W.s (fun K5 n5 e5 q5 p5=>oG fun n6=>W.r (oA 9 (.int .i64 t1) (oI 10 .i64 hF fun t10 hF=>oA 6 (.int .i64 t10) (oV [(0,.int .u64 t0),(5,v8),(6,.int .i64 t10)] (n6 ?_)))))))))))))));obtain⟨k9,e9,hF⟩:=z6 hF
 have J9:∀(h_10:AHeap),k9 h_10=some (rR,hR)→Go w0 m0 (Func.ntmps Try.f69) (K5 .normal) [(5,v8)] [] h_10:=by
  intro h_10 hF;rw[e9] at hF;refine n5 (oG fun n11=>W.r (oA 23 v8 ?_))
  replace hF:=z1c hF;obtain⟨v24,h_12,e13,hF⟩:=hF
  replace hF:=z4 hF;obtain⟨t24,c14,hF⟩:=hF
  have c14:=z19 c14;subst c14;exact WL.b (some 24) (z5 t24) h_12 e13 (oA 4 (z5 t24) (oV [(4,z5 t24)] (n11 (oY (lZ hF [.tmp 4] [z5 t24] (rT zd))))))
 refine W.blockK (by kernel_rfl) (fun K8 n8 s8 o8 q8 p8=>W.loopK (by kernel_rfl) (fun I15 K15 b15 n15 e15 q15 p15=>?_))
 have L15:∀(m:Nat) (t0_16:Int) (t6:Int) (h_17:AHeap),z94 v8 k9 m t0_16 t6 h_17=some (rR,hR)→Go w0 m0 (Func.ntmps Try.f69) I15 [(0,.int .u64 t0_16),(5,v8),(6,.int .i64 t6)] [] h_17:=by
  intro m
  induction m with
  |zero=>intro t0_16 t6 h_17 hF;cases hF
  |succ m ih15=>
   intro t0_16 t6 h_17 hF;rw[z11e] at hF;unfold za3 at hF;refine b15 (W.s (fun K18 n18 e18 q18 p18=>oG fun n19=>W.r (oA 11 (.int .i64 t6) (oB 12 hF fun t12 hF=>oV [(0,.int .u64 t0_16),(5,v8),(6,.int .i64 t6),(12,.bool t12)] (n19 ?_)))))
   cases t12 with
   |true=>
    refine oT hF fun hF=>oZ (n18 (oG fun n21=>W.blockK (by kernel_rfl) (fun K22 n22 s22 o22 q22 p22=>oG fun n23=>W.r (oA 15 v8 (oA 16 (.int .i64 t6) (oA 17 (.int .u64 t0_16) ?_))))));obtain⟨t18,e24,hF⟩:=z4 hF;refine WL.b (some 18) (.int .u64 t18) h_17 (z2a5 (P:=Try.prog) (h:=h_17) (t:=131) (lit:=true) e24) (oI 19 .u8 hF fun t19 hF=>oP 20 46 5 .i64 hF fun t20 hF=>oW 5 (.int .u8 t19) hF fun h_27 hF=>oV [(0,.int .u64 t0_16),(5,v8),(6,.int .i64 t6)] (n23 (W.r (oA 21 (.int .u64 t0_16) ?_))));obtain⟨t22,e29,hF⟩:=z4 hF;exact WL.b (some 22) (.int .u64 t22) h_27 (z34e (P:=Try.prog) (h:=h_27) (t:=131) (lit:=true) e29) (oA 0 (.int .u64 t22) (oV [(0,.int .u64 t22),(5,v8),(6,.int .i64 t6)] (n22 (n21 (W.r (oA 13 (.int .i64 t6) (oI 14 .i64 hF fun t14 hF=>oA 6 (.int .i64 t14) (oV [(0,.int .u64 t22),(5,v8),(6,.int .i64 t14)] (n15 (gW _ (ih15 _ _ _ hF)))))))))))
   |false=>
    exact oU hF fun hF=>W.exit (by kernel_rfl) (e18 (e15 (s8 (by kernel_rfl) (gW _ (J9 _ hF)))))
 exact gW _ (L15 _ _ _ _ hF)
noncomputable def z1c5(call:z10)(_:Nat)(t0:Bytes)(h:AHeap):R:=callN (call 91 [.int .u32 0,z5 t0] h) fun r4 h_3=>obind (z17 .u32 r4) fun t4=>some (.ret (.int .u32 t4),h_3)
set_option maxHeartbeats 4000000 in
set_option maxRecDepth 20000 in
theorem z3f6{call:z10}(hc:SaysAll Try.prog call){n:Nat}{t0:Bytes}{h:AHeap}{rR:ARes}{hR:AHeap}(hF:z1c5 call n t0 h=some (rR,hR)):Says Try.prog 84 [z5 t0] h rR hR:=by
 unfold z1c5 at hF;exact sO Try.func84 fun w0 m0=>wW [(0,z5 t0)] (oG fun n1=>W.r (oA 2 (.int .u32 0) (oV [(0,z5 t0)] (n1 (oG fun n2=>W.r (oA 3 (z5 t0) (oCi hc 4 hF fun t4 h_3 hF=>oA 2 (.int .u32 t4) (oV [(2,.int .u32 t4)] (n2 (oY (lZ hF [.tmp 2] [.int .u32 t4] (rT zd))))))))))))
noncomputable def zd7(call:z10)(k24:Int→AHeap→R)(self:Int→Int→Int→AHeap→R)(t5_29:Int)(t7:Int)(t8:Int)(h_30:AHeap):R:=lett (decide (t8<8)) fun (t22:Bool)=>ifB t22 (obind (remI .u32 t7 2) fun t27=>callN (call 97 [.int .u32 t5_29,.int .u32 t27] h_30) fun r28 h_38=>obind (z17 .u32 r28) fun t28=>obind (z473 .u32 t7 2) fun t30=>lett (IntKind.i64.wrap (t8+1)) fun (t24:Int)=>self t28 t30 t24 h_38) (k24 t5_29 h_30)
noncomputable def z104(call:z10)(k24:Int→AHeap→R):Nat→Int→Int→Int→AHeap→R:=z122 (fun _ _ _ _=>none) (zd7 call k24)
theorem z15e(call:z10)(k24:Int→AHeap→R)(m:Nat):z104 call k24 (m+1)=zd7 call k24 (z104 call k24 m):=rfl
noncomputable def zd8(call:z10)(n:Nat)(t1:Bytes)(k7:Int→AHeap→R)(self:Int→Int→AHeap→R)(t5_12:Int)(t6:Int)(h_13:AHeap):R:=lett (decide (t6<(z3b t1))) fun (t14:Bool)=>ifB t14 (obind (z3c1 t1 t6) fun t19=>lett (IntKind.u32.wrap t19) fun (t20:Int)=>lett (fun (t5_25:Int) (h_26:AHeap)=>lett (IntKind.i64.wrap (t6+1)) fun (t16:Int)=>self t5_25 t16 h_26) fun k24=>z104 call k24 n t5_12 t20 0 h_13) (k7 t5_12 h_13)
noncomputable def z105(call:z10)(n:Nat)(t1:Bytes)(k7:Int→AHeap→R):Nat→Int→Int→AHeap→R:=z122 (fun _ _ _=>none) (zd8 call n t1 k7)
theorem z15f(call:z10)(n:Nat)(t1:Bytes)(k7:Int→AHeap→R)(m:Nat):z105 call n t1 k7 (m+1)=zd8 call n t1 k7 (z105 call n t1 k7 m):=rfl
noncomputable def z14f(call:z10)(n:Nat)(t0:Int)(t1:Bytes)(h:AHeap):R:=lett (comI .u32 t0) fun (t10:Int)=>lett (fun (t5:Int) (h_8:AHeap)=>lett (comI .u32 t5) fun (t32:Int)=>some (.ret (.int .u32 t32),h_8)) fun k7=>z105 call n t1 k7 n t10 0 h
set_option maxHeartbeats 4000000 in
set_option maxRecDepth 20000 in
theorem z34c{call:z10}(hc:SaysAll Try.prog call){n:Nat}{t0:Int}{t1:Bytes}{h:AHeap}{rR:ARes}{hR:AHeap}(hF:z14f call n t0 t1 h=some (rR,hR)):Says Try.prog 91 [.int .u32 t0,z5 t1] h rR hR:=by
 unfold z14f at hF;refine sO Try.func91 fun w0 m0=>wW [(0,.int .u32 t0),(1,z5 t1)] (oG fun n1=>W.r (oA 4 (.int .u32 0) (oV [(0,.int .u32 t0),(1,z5 t1)] (n1 (oG fun n2=>W.r (oA 9 (.int .u32 t0) (oI 10 .u32 hF fun t10 hF=>oA 5 (.int .u32 t10) (oV [(1,z5 t1),(5,.int .u32 t10)] (n2 (W.s (fun K4 n4 e4 q4 p4=>oG fun n5=>W.r (oA 6 (.int .i64 0) (oV [(1,z5 t1),(5,.int .u32 t10),(6,.int .i64 0)] (n5 ?_))))))))))))));obtain⟨k7,e7,hF⟩:=z6 hF
 have J7:∀(t5:Int) (h_8:AHeap),k7 t5 h_8=some (rR,hR)→Go w0 m0 (Func.ntmps Try.f91) (K4 .normal) [(5,.int .u32 t5)] [] h_8:=by
  intro t5 h_8 hF;rw[e7] at hF;exact n4 (oG fun n9=>W.r (oA 31 (.int .u32 t5) (oI 32 .u32 hF fun t32 hF=>oA 4 (.int .u32 t32) (oV [(4,.int .u32 t32)] (n9 (oY (lZ hF [.tmp 4] [.int .u32 t32] (rT zd))))))))
 refine W.blockK (by kernel_rfl) (fun K6 n6 s6 o6 q6 p6=>W.loopK (by kernel_rfl) (fun I11 K11 b11 n11 e11 q11 p11=>?_))
 have L11:∀(m:Nat) (t5_12:Int) (t6:Int) (h_13:AHeap),z105 call n t1 k7 m t5_12 t6 h_13=some (rR,hR)→Go w0 m0 (Func.ntmps Try.f91) I11 [(1,z5 t1),(5,.int .u32 t5_12),(6,.int .i64 t6)] [] h_13:=by
  intro m
  induction m with
  |zero=>intro t5_12 t6 h_13 hF;cases hF
  |succ m ih11=>
   intro t5_12 t6 h_13 hF;rw[z15f] at hF;unfold zd8 at hF;refine b11 (W.s (fun K14 n14 e14 q14 p14=>oG fun n15=>W.r (oA 11 (.int .i64 t6) (oA 12 (z5 t1) (oA 13 (.int .i64 (z3b t1)) (oB 14 hF fun t14 hF=>oV [(1,z5 t1),(5,.int .u32 t5_12),(6,.int .i64 t6),(14,.bool t14)] (n15 ?_)))))))
   cases t14 with
   |true=>
    refine oT hF fun hF=>oZ (n14 (oG fun n17=>W.blockK (by kernel_rfl) (fun K18 n18 s18 o18 q18 p18=>oG fun n19=>W.r (oA 17 (z5 t1) (oA 18 (.int .i64 t6) (oX 19 9 .i64 hF fun t19 hF=>oI 20 .u32 hF fun t20 hF=>oA 7 (.int .u32 t20) (oV [(1,z5 t1),(5,.int .u32 t5_12),(6,.int .i64 t6),(7,.int .u32 t20)] (n19 (oG fun n22=>W.r (oA 8 (.int .i64 0) (oV [(1,z5 t1),(5,.int .u32 t5_12),(6,.int .i64 t6),(7,.int .u32 t20),(8,.int .i64 0)] (n22 ?_))))))))))));obtain⟨k24,e24,hF⟩:=z6 hF
    have J24:∀(t5_25:Int) (h_26:AHeap),k24 t5_25 h_26=some (rR,hR)→Go w0 m0 (Func.ntmps Try.f91) (K18 .normal) [(1,z5 t1),(5,.int .u32 t5_25),(6,.int .i64 t6)] [] h_26:=by
     intro t5_25 h_26 hF;rw[e24] at hF;exact n18 (n17 (W.r (oA 15 (.int .i64 t6) (oI 16 .i64 hF fun t16 hF=>oA 6 (.int .i64 t16) (oV [(1,z5 t1),(5,.int .u32 t5_25),(6,.int .i64 t16)] (n11 (gW _ (ih11 _ _ _ hF))))))))
    refine W.blockK (by kernel_rfl) (fun K23 n23 s23 o23 q23 p23=>W.loopK (by kernel_rfl) (fun I28 K28 b28 n28 e28 q28 p28=>?_))
    have L28:∀(m:Nat) (t5_29:Int) (t7:Int) (t8:Int) (h_30:AHeap),z104 call k24 m t5_29 t7 t8 h_30=some (rR,hR)→Go w0 m0 (Func.ntmps Try.f91) I28 [(1,z5 t1),(5,.int .u32 t5_29),(6,.int .i64 t6),(7,.int .u32 t7),(8,.int .i64 t8)] [] h_30:=by
     intro m
     induction m with
     |zero=>intro t5_29 t7 t8 h_30 hF;cases hF
     |succ m ih28=>
      intro t5_29 t7 t8 h_30 hF;rw[z15e] at hF;unfold zd7 at hF;refine b28 (W.s (fun K31 n31 e31 q31 p31=>oG fun n32=>W.r (oA 21 (.int .i64 t8) (oB 22 hF fun t22 hF=>oV [(1,z5 t1),(5,.int .u32 t5_29),(6,.int .i64 t6),(7,.int .u32 t7),(8,.int .i64 t8),(22,.bool t22)] (n32 ?_)))))
      cases t22 with
      |true=>
       refine oT hF fun hF=>oZ (n31 (oG fun n34=>W.blockK (by kernel_rfl) (fun K35 n35 s35 o35 q35 p35=>oG fun n36=>W.r (oA 25 (.int .u32 t5_29) (oA 26 (.int .u32 t7) ?_)))));obtain⟨t27,e37,hF⟩:=z4 hF;refine WL.b (some 27) (.int .u32 t27) h_30 (z2a5 (P:=Try.prog) (h:=h_30) (t:=128) (lit:=true) e37) (oCi hc 28 hF fun t28 h_38 hF=>oA 5 (.int .u32 t28) (oV [(1,z5 t1),(5,.int .u32 t28),(6,.int .i64 t6),(7,.int .u32 t7),(8,.int .i64 t8)] (n36 (W.r (oA 29 (.int .u32 t7) ?_)))));obtain⟨t30,e41,hF⟩:=z4 hF;exact WL.b (some 30) (.int .u32 t30) h_38 (z34e (P:=Try.prog) (h:=h_38) (t:=128) (lit:=true) e41) (oA 7 (.int .u32 t30) (oV [(1,z5 t1),(5,.int .u32 t28),(6,.int .i64 t6),(7,.int .u32 t30),(8,.int .i64 t8)] (n35 (n34 (W.r (oA 23 (.int .i64 t8) (oI 24 .i64 hF fun t24 hF=>oA 8 (.int .i64 t24) (oV [(1,z5 t1),(5,.int .u32 t28),(6,.int .i64 t6),(7,.int .u32 t30),(8,.int .i64 t24)] (n28 (gW _ (ih28 _ _ _ _ hF)))))))))))
      |false=>
       exact oU hF fun hF=>W.exit (by kernel_rfl) (e31 (e28 (s23 (by kernel_rfl) (gW _ (J24 _ _ hF)))))
    exact gW _ (L28 _ _ _ _ _ hF)
   |false=>
    exact oU hF fun hF=>W.exit (by kernel_rfl) (e14 (e11 (s6 (by kernel_rfl) (gW _ (J7 _ _ hF)))))
 exact gW _ (L11 _ _ _ _ hF)
noncomputable def z14e(_:z10)(_:Nat)(t0:Int)(t1:Int)(h:AHeap):R:=lett (IntKind.u32.wrap (t0+t1)) fun (t8:Int)=>obind (remI .u32 t8 2) fun t9=>obind (z473 .u32 t0 2) fun t11=>lett ((t9:Int) == 1) fun (t13:Bool)=>lett (fun (t0_11:Int) (h_12:AHeap)=>some (.ret (.int .u32 t0_11),h_12)) fun k10=>ifB t13 (lett (xorI .u32 t11 2197175160) fun (t15:Int)=>k10 t15 h) (k10 t11 h)
set_option maxHeartbeats 4000000 in
set_option maxRecDepth 20000 in
theorem z34b{call:z10}(_:SaysAll Try.prog call){n:Nat}{t0:Int}{t1:Int}{h:AHeap}{rR:ARes}{hR:AHeap}(hF:z14e call n t0 t1 h=some (rR,hR)):Says Try.prog 97 [.int .u32 t0,.int .u32 t1] h rR hR:=by
 unfold z14e at hF;refine sO Try.func97 fun w0 m0=>wW [(0,.int .u32 t0),(1,.int .u32 t1)] (oG fun n1=>W.r (oA 4 (.int .u32 0) (oV [(0,.int .u32 t0),(1,.int .u32 t1)] (n1 (oG fun n2=>W.r (oA 6 (.int .u32 t0) (oA 7 (.int .u32 t1) (oI 8 .u32 hF fun t8 hF=>?_))))))));obtain⟨t9,e4,hF⟩:=z4 hF;refine WL.b (some 9) (.int .u32 t9) h (z2a5 (P:=Try.prog) (h:=h) (t:=128) (lit:=true) e4) (oA 5 (.int .u32 t9) (oV [(0,.int .u32 t0),(5,.int .u32 t9)] (n2 (oG fun n5=>W.r (oA 10 (.int .u32 t0) ?_)))));obtain⟨t11,e6,hF⟩:=z4 hF;refine WL.b (some 11) (.int .u32 t11) h (z34e (P:=Try.prog) (h:=h) (t:=128) (lit:=true) e6) (oA 0 (.int .u32 t11) (oV [(0,.int .u32 t11),(5,.int .u32 t9)] (n5 (W.s (fun K7 n7 e7 q7 p7=>oG fun n8=>W.r (oA 12 (.int .u32 t9) (oB 13 hF fun t13 hF=>oV [(0,.int .u32 t11),(13,.bool t13)] (n8 ?_))))))));obtain⟨k10,e10,hF⟩:=z6 hF
 have J10:∀(t0_11:Int) (h_12:AHeap),k10 t0_11 h_12=some (rR,hR)→Go w0 m0 (Func.ntmps Try.f97) (K7 .normal) [(0,.int .u32 t0_11)] [] h_12:=by
  intro t0_11 h_12 hF;rw[e10] at hF;exact n7 (oG fun n13=>W.r (oA 16 (.int .u32 t0_11) (oA 4 (.int .u32 t0_11) (oV [(4,.int .u32 t0_11)] (n13 (oY (lZ hF [.tmp 4] [.int .u32 t0_11] (rT zd))))))))
 cases t13 with
 |true=>
  exact oT hF fun hF=>W.r (oA 14 (.int .u32 t11) (oI 15 .u32 hF fun t15 hF=>oA 0 (.int .u32 t15) (oV [(0,.int .u32 t15)] (gW _ (J10 _ _ hF)))))
 |false=>
  exact oU hF fun hF=>oZ (gW _ (J10 _ _ hF))
noncomputable def z12b(call:z10)(k32:Bytes→AHeap→R)(self:Bytes→Bytes→AHeap→R)(t1_36:Bytes)(t5_37:Bytes)(h_38:AHeap):R:=lett (decide ((z3b t1_36)>0)) fun (t25:Bool)=>ifB t25 (lett (decide (2048>(z3b t1_36))) fun (t29:Bool)=>lett (fun (t6:Int) (h_48:AHeap)=>obind (z43 t1_36 0 t6) fun t35=>callN (call 68 [z5 t35] h_48) fun r36 h_51=>obind (z20 r36) fun t36=>obind (z37b t5_37 t36) fun t37=>obind (z43 t1_36 t6 (z3b t1_36)) fun t40=>self t40 t37 h_51) fun k47=>ifB t29 (k47 (z3b t1_36) h_38) (k47 2048 h_38)) (k32 t5_37 h_38)
noncomputable def z101(call:z10)(k32:Bytes→AHeap→R):Nat→Bytes→Bytes→AHeap→R:=z122 (fun _ _ _=>none) (z12b call k32)
theorem z1b4(call:z10)(k32:Bytes→AHeap→R)(m:Nat):z101 call k32 (m+1)=z12b call k32 (z101 call k32 m):=rfl
noncomputable def z14b(call:z10)(n:Nat)(t0:List AV)(t1:Bytes)(h:AHeap):R:=
 outK (zd9 h 39 (some (.agg t0))) fun v2 h_2=>
 obind (z27 0 v2) fun t7=>
 obind (zc h_2 t7) fun v8=>
 obind (z17 .i64 v8) fun t8=>
 lett (IntKind.u64.wrap t8) fun (t9:Int)=>
 obind (z27 1 v2) fun t12=>
 obind (zc h_2 t12) fun v13=>
 obind (z17 .i64 v13) fun t13=>
 lett (IntKind.u64.wrap t13) fun (t14:Int)=>
 lett (IntKind.u64.wrap (z3b t1)) fun (t19:Int)=>
 callN (call 69 [.int .u64 t9,.int .i64 8] h_2) fun r10 h_14=>
 obind (z20 r10) fun t10=>
 chk (z86 Try.prog h_14 3 t12 (.int .i64 t13)&&(true&&true))<|
 obind (z37b ([115,110,97,112,115,104,111,116]:Bytes) t10) fun t11=>
 callN (call 69 [.int .u64 t14,.int .i64 8] h_14) fun r15 h_19=>
 obind (z20 r15) fun t15=>
 obind (z37b t11 t15) fun t16=>
 callN (call 69 [.int .u64 t19,.int .i64 8] h_19) fun r20 h_23=>
 obind (z20 r20) fun t20=>
 obind (z37b t16 t20) fun t21=>
 callN (call 68 [z5 t21] h_23) fun r22 h_27=>
 obind (z20 r22) fun t22=>
 lett (fun (t5:Bytes) (h_33:AHeap)=>
  some (.ret (z5 t5),h_33)) fun k32=>
 z101 call k32 n t1 t22 h_27
set_option maxHeartbeats 4000000 in
set_option maxRecDepth 20000 in
theorem z346{call:z10}(hc:SaysAll Try.prog call){n:Nat}{t0:List AV}{t1:Bytes}{h:AHeap}{rR:ARes}{hR:AHeap}(hF:z14b call n t0 t1 h=some (rR,hR)):Says Try.prog 45 [.agg t0,z5 t1] h rR hR:=by
 unfold z14b at hF;refine sO Try.func45 fun w0 m0=>wW [(0,.agg t0),(1,z5 t1)] (oG fun n1=>W.r (oK 2 hF fun v2 h_2 hF=>oA 4 (z5 ([]:Bytes)) (oV [(1,z5 t1),(2,v2)] (n1 (oG fun n4=>W.draw (by kernel_rfl) (hc.ok w0) (plan:=[0,1,2,5,6,7,10,11,12,3,4,8,9,13,14,15,16]) (by kernel_rfl) (by kernel_rfl) (by kernel_rfl) ?_)))));obtain⟨t7,e5,hF⟩:=z4 hF;refine WD.b 0 (some 7) t7 h_2 (z15 (P:=Try.prog) (h:=h_2) (s:=39) (f:=0) (by kernel_rfl) e5) ?_
 replace hF:=z4 hF;obtain⟨v8,e6,hF⟩:=hF
 replace hF:=z4 hF;obtain⟨t8,c7,hF⟩:=hF
 have c7:=z1a c7;subst c7;refine WD.b 1 (some 8) (.int .i64 t8) h_2 (z14 (P:=Try.prog) (h:=h_2) (t:=3) (by kernel_rfl) e6) ?_;obtain⟨t9,e8,hF⟩:=z6 hF;refine WD.val (d:=(some 9)) (v:=.int .u64 t9) (h':=h_2) (by kernel_rfl) (by kernel_rfl) (z38 (AV.int .u64) e8 (by kernel_rfl)) (k:=0) (by kernel_rfl) (fun e=>absurd e (by decide)) (by decide) ?_;obtain⟨t12,e9,hF⟩:=z4 hF;refine WD.b 0 (some 12) t12 h_2 (z15 (P:=Try.prog) (h:=h_2) (s:=39) (f:=1) (by kernel_rfl) e9) ?_
 replace hF:=z4 hF;obtain⟨v13,e10,hF⟩:=hF
 replace hF:=z4 hF;obtain⟨t13,c11,hF⟩:=hF
 have c11:=z1a c11;subst c11;refine WD.b 1 (some 13) (.int .i64 t13) h_2 (z14 (P:=Try.prog) (h:=h_2) (t:=3) (by kernel_rfl) e10) ?_;obtain⟨t14,e12,hF⟩:=z6 hF;refine WD.val (d:=(some 14)) (v:=.int .u64 t14) (h':=h_2) (by kernel_rfl) (by kernel_rfl) (z38 (AV.int .u64) e12 (by kernel_rfl)) (k:=0) (by kernel_rfl) (fun e=>absurd e (by decide)) (by decide) (WD.a 0 (some 17) (z5 t1) h_2 (WD.a 0 (some 18) (.int .i64 (z3b t1)) h_2 ?_));obtain⟨t19,e13,hF⟩:=z6 hF;refine WD.val (d:=(some 19)) (v:=.int .u64 t19) (h':=h_2) (by kernel_rfl) (by kernel_rfl) (z38 (AV.int .u64) e13 (by kernel_rfl)) (k:=0) (by kernel_rfl) (fun e=>absurd e (by decide)) (by decide) ?_
 replace hF:=z18 hF;obtain⟨r10,h_14,e15,hF⟩:=hF
 replace hF:=z4 hF;obtain⟨t10,c16,hF⟩:=hF
 have c16:=z19 c16;subst c16;obtain⟨k17,hF⟩:=z74 hF;refine WD.call (d:=(some 10)) (by kernel_rfl) (by kernel_rfl) (by kernel_rfl) e15 (k:=2) (by kernel_rfl) (fun _=>(Eq.trans (by kernel_rfl) k17)) (by decide) ?_;obtain⟨t11,e18,hF⟩:=z4 hF;refine WD.b 0 (some 11) (z5 t11) h_14 (z110 (P:=Try.prog) (h:=h_14) (t:=9) (lit:=true) e18) ?_
 replace hF:=z18 hF;obtain⟨r15,h_19,e20,hF⟩:=hF
 replace hF:=z4 hF;obtain⟨t15,c21,hF⟩:=hF
 have c21:=z19 c21;subst c21;refine WD.call (d:=(some 15)) (by kernel_rfl) (by kernel_rfl) (by kernel_rfl) e20 (k:=2) (by kernel_rfl) (fun _=>(by kernel_rfl)) (by decide) ?_;obtain⟨t16,e22,hF⟩:=z4 hF;refine WD.b 0 (some 16) (z5 t16) h_19 (z110 (P:=Try.prog) (h:=h_19) (t:=9) (lit:=false) e22) ?_
 replace hF:=z18 hF;obtain⟨r20,h_23,e24,hF⟩:=hF
 replace hF:=z4 hF;obtain⟨t20,c25,hF⟩:=hF
 have c25:=z19 c25;subst c25;refine WD.call (d:=(some 20)) (by kernel_rfl) (by kernel_rfl) (by kernel_rfl) e24 (k:=2) (by kernel_rfl) (fun _=>(by kernel_rfl)) (by decide) ?_;obtain⟨t21,e26,hF⟩:=z4 hF;refine WD.b 0 (some 21) (z5 t21) h_23 (z110 (P:=Try.prog) (h:=h_23) (t:=9) (lit:=false) e26) ?_
 replace hF:=z18 hF;obtain⟨r22,h_27,e28,hF⟩:=hF
 replace hF:=z4 hF;obtain⟨t22,c29,hF⟩:=hF
 have c29:=z19 c29;subst c29;refine WD.call (d:=(some 22)) (by kernel_rfl) (by kernel_rfl) (by kernel_rfl) e28 (k:=2) (by kernel_rfl) (fun _=>(by kernel_rfl)) (by decide) (WD.a 0 (some 5) (z5 t22) h_27 (WD.nil (gW [(1,z5 t1),(5,z5 t22)] (n4 (W.s (fun K30 n30 e30 q30 p30=>?_))))));obtain⟨k32,e32,hF⟩:=z6 hF
 have J32:∀(t5:Bytes) (h_33:AHeap),k32 t5 h_33=some (rR,hR)→Go w0 m0 (Func.ntmps Try.f45) (K30 .normal) [(5,z5 t5)] [] h_33:=by
  intro t5 h_33 hF;rw[e32] at hF;exact n30 (oG fun n34=>W.r (oA 41 (z5 t5) (oA 4 (z5 t5) (oV [(4,z5 t5)] (n34 (oY (lZ hF [.tmp 4] [z5 t5] (rT zd))))))))
 refine W.blockK (by kernel_rfl) (fun K31 n31 s31 o31 q31 p31=>W.loopK (by kernel_rfl) (fun I35 K35 b35 n35 e35 q35 p35=>?_))
 have L35:∀(m:Nat) (t1_36:Bytes) (t5_37:Bytes) (h_38:AHeap),z101 call k32 m t1_36 t5_37 h_38=some (rR,hR)→Go w0 m0 (Func.ntmps Try.f45) I35 [(1,z5 t1_36),(5,z5 t5_37)] [] h_38:=by
  intro m
  induction m with
  |zero=>intro t1_36 t5_37 h_38 hF;cases hF
  |succ m ih35=>
   intro t1_36 t5_37 h_38 hF;rw[z1b4] at hF;unfold z12b at hF;refine b35 (W.s (fun K39 n39 e39 q39 p39=>oG fun n40=>W.r (oA 23 (z5 t1_36) (oA 24 (.int .i64 (z3b t1_36)) (oB 25 hF fun t25 hF=>oV [(1,z5 t1_36),(5,z5 t5_37),(25,.bool t25)] (n40 ?_))))))
   cases t25 with
   |true=>
    refine oT hF fun hF=>oZ (n39 (W.blockK (by kernel_rfl) (fun K42 n42 s42 o42 q42 p42=>oG fun n43=>W.r (oA 6 (.int .i64 2048) (oV [(1,z5 t1_36),(5,z5 t5_37),(6,.int .i64 2048)] (n43 (W.s (fun K44 n44 e44 q44 p44=>oG fun n45=>W.r (oA 26 (.int .i64 2048) (oA 27 (z5 t1_36) (oA 28 (.int .i64 (z3b t1_36)) (oB 29 hF fun t29 hF=>oV [(1,z5 t1_36),(5,z5 t5_37),(6,.int .i64 2048),(29,.bool t29)] (n45 ?_)))))))))))));obtain⟨k47,e47,hF⟩:=z6 hF
    have J47:∀(t6:Int) (h_48:AHeap),k47 t6 h_48=some (rR,hR)→Go w0 m0 (Func.ntmps Try.f45) (K44 .normal) [(1,z5 t1_36),(5,z5 t5_37),(6,.int .i64 t6)] [] h_48:=by
     intro t6 h_48 hF;rw[e47] at hF;refine n44 (oG fun n49=>W.r (oA 32 (z5 t5_37) (oA 33 (z5 t1_36) (oA 34 (.int .i64 t6) ?_))));obtain⟨t35,e50,hF⟩:=z4 hF;refine WL.b (some 35) (z5 t35) h_48 (z48 (P:=Try.prog) (h:=h_48) (t:=9) (A:=none) (B:=(some (.int .i64 t6))) (by kernel_rfl) (.inr ⟨rfl,rfl⟩) (.inl ⟨_,rfl⟩) e50) (oCs hc 36 hF fun t36 h_51 hF=>?_);obtain⟨t37,e54,hF⟩:=z4 hF;refine WL.b (some 37) (z5 t37) h_51 (z110 (P:=Try.prog) (h:=h_51) (t:=9) (lit:=false) e54) (oA 5 (z5 t37) (oV [(1,z5 t1_36),(5,z5 t37),(6,.int .i64 t6)] (n49 (W.r (oA 38 (z5 t1_36) (oA 39 (.int .i64 t6) ?_))))));obtain⟨t40,e55,hF⟩:=z4 hF;exact WL.b (some 40) (z5 t40) h_51 (z48 (P:=Try.prog) (h:=h_51) (t:=9) (A:=(some (.int .i64 t6))) (B:=none) (by kernel_rfl) (.inl ⟨_,rfl⟩) (.inr ⟨rfl,rfl⟩) e55) (oA 1 (z5 t40) (oV [(1,z5 t40),(5,z5 t37)] (n42 (n35 (gW _ (ih35 _ _ _ hF))))))
    cases t29 with
    |true=>
     exact oT hF fun hF=>W.r (oA 30 (z5 t1_36) (oA 31 (.int .i64 (z3b t1_36)) (oA 6 (.int .i64 (z3b t1_36)) (oV [(1,z5 t1_36),(5,z5 t5_37),(6,.int .i64 (z3b t1_36))] (gW _ (J47 _ _ hF))))))
    |false=>
     exact oU hF fun hF=>oZ (gW _ (J47 _ _ hF))
   |false=>
    exact oU hF fun hF=>W.exit (by kernel_rfl) (e39 (e35 (s31 (by kernel_rfl) (gW _ (J32 _ _ hF)))))
 exact gW _ (L35 _ _ _ _ hF)
noncomputable def za2(t0:Bytes)(k6:Int→AHeap→R)(self:Int→Int→AHeap→R)(t3_10:Int)(t4:Int)(h_11:AHeap):R:=lett (decide (t4<8)) fun (t6:Bool)=>ifB t6 (lett (decide (t3_10>281474976710656)) fun (t10:Bool)=>ifB t10 (some (.ret (.int .i64 (-1)),h_11)) (lett (IntKind.i64.wrap (t3_10*256)) fun (t12:Int)=>obind (z3c1 t0 t4) fun t15=>lett (IntKind.i64.wrap t15) fun (t16:Int)=>lett (IntKind.i64.wrap (t12+t16)) fun (t17:Int)=>lett (IntKind.i64.wrap (t4+1)) fun (t8:Int)=>self t17 t8 h_11)) (k6 t3_10 h_11)
noncomputable def zba(t0:Bytes)(k6:Int→AHeap→R):Nat→Int→Int→AHeap→R:=z122 (fun _ _ _=>none) (za2 t0 k6)
theorem z11a(t0:Bytes)(k6:Int→AHeap→R)(m:Nat):zba t0 k6 (m+1)=za2 t0 k6 (zba t0 k6 m):=rfl
noncomputable def zf1(_:z10)(n:Nat)(t0:Bytes)(h:AHeap):R:=lett (fun (t3:Int) (h_7:AHeap)=>some (.ret (.int .i64 t3),h_7)) fun k6=>zba t0 k6 n 0 0 h
set_option maxHeartbeats 4000000 in
set_option maxRecDepth 20000 in
theorem z2a6{call:z10}(_:SaysAll Try.prog call){n:Nat}{t0:Bytes}{h:AHeap}{rR:ARes}{hR:AHeap}(hF:zf1 call n t0 h=some (rR,hR)):Says Try.prog 71 [z5 t0] h rR hR:=by
 unfold zf1 at hF;refine sO Try.func71 fun w0 m0=>wW [(0,z5 t0)] (oG fun n1=>W.r (oA 2 (.int .i64 0) (oV [(0,z5 t0)] (n1 (oG fun n2=>W.r (oA 3 (.int .i64 0) (oV [(0,z5 t0),(3,.int .i64 0)] (n2 (W.s (fun K3 n3 e3 q3 p3=>oG fun n4=>W.r (oA 4 (.int .i64 0) (oV [(0,z5 t0),(3,.int .i64 0),(4,.int .i64 0)] (n4 ?_)))))))))))));obtain⟨k6,e6,hF⟩:=z6 hF
 have J6:∀(t3:Int) (h_7:AHeap),k6 t3 h_7=some (rR,hR)→Go w0 m0 (Func.ntmps Try.f71) (K3 .normal) [(3,.int .i64 t3)] [] h_7:=by
  intro t3 h_7 hF;rw[e6] at hF;exact n3 (oG fun n8=>W.r (oA 18 (.int .i64 t3) (oA 2 (.int .i64 t3) (oV [(2,.int .i64 t3)] (n8 (oY (lZ hF [.tmp 2] [.int .i64 t3] (rT zd))))))))
 refine W.blockK (by kernel_rfl) (fun K5 n5 s5 o5 q5 p5=>W.loopK (by kernel_rfl) (fun I9 K9 b9 n9 e9 q9 p9=>?_))
 have L9:∀(m:Nat) (t3_10:Int) (t4:Int) (h_11:AHeap),zba t0 k6 m t3_10 t4 h_11=some (rR,hR)→Go w0 m0 (Func.ntmps Try.f71) I9 [(0,z5 t0),(3,.int .i64 t3_10),(4,.int .i64 t4)] [] h_11:=by
  intro m
  induction m with
  |zero=>intro t3_10 t4 h_11 hF;cases hF
  |succ m ih9=>
   intro t3_10 t4 h_11 hF;rw[z11a] at hF;unfold za2 at hF;refine b9 (W.s (fun K12 n12 e12 q12 p12=>oG fun n13=>W.r (oA 5 (.int .i64 t4) (oB 6 hF fun t6 hF=>oV [(0,z5 t0),(3,.int .i64 t3_10),(4,.int .i64 t4),(6,.bool t6)] (n13 ?_)))))
   cases t6 with
   |true=>
    refine oT hF fun hF=>oZ (n12 (oH fun n15 q15=>W.blockK (by kernel_rfl) (fun K16 n16 s16 o16 q16 p16=>oH fun n17 q17=>oG fun n18=>W.r (oA 9 (.int .i64 t3_10) (oB 10 hF fun t10 hF=>oV [(0,z5 t0),(3,.int .i64 t3_10),(4,.int .i64 t4),(10,.bool t10)] (n18 ?_))))))
    cases t10 with
    |true=>
     exact oT hF fun hF=>oG fun n20=>W.r (oA 2 (.int .i64 (-1)) (oV [(2,.int .i64 (-1))] (n20 (oY (q17 (q16 (q15 (q9 (q5 (q3 (lZ hF [.tmp 2] [.int .i64 (-1)] (rT zd))))))))))))
    |false=>
     exact oU hF fun hF=>oZ (n17 (W.r (oA 11 (.int .i64 t3_10) (oI 12 .i64 hF fun t12 hF=>oA 13 (z5 t0) (oA 14 (.int .i64 t4) (oX 15 9 .i64 hF fun t15 hF=>oI 16 .i64 hF fun t16 hF=>oI 17 .i64 hF fun t17 hF=>oA 3 (.int .i64 t17) (oV [(0,z5 t0),(3,.int .i64 t17),(4,.int .i64 t4)] (n16 (n15 (W.r (oA 7 (.int .i64 t4) (oI 8 .i64 hF fun t8 hF=>oA 4 (.int .i64 t8) (oV [(0,z5 t0),(3,.int .i64 t17),(4,.int .i64 t8)] (n9 (gW _ (ih9 _ _ _ hF))))))))))))))))
   |false=>
    exact oU hF fun hF=>W.exit (by kernel_rfl) (e12 (e9 (s5 (by kernel_rfl) (gW _ (J6 _ _ hF)))))
 exact gW _ (L9 _ _ _ _ hF)
noncomputable def zd4(v13:AV)(k46:Bytes→AHeap→R)(self:Bytes→Int→AHeap→R)(t8_95:Bytes)(t9:Int)(h_96:AHeap):R:=obind (z12d v13) fun t39=>lett (decide (t9<t39)) fun (t40:Bool)=>ifB t40 (obind (z150 1 v13 t9) fun t46=>obind (zc h_96 t46) fun v47=>obind (z20 v47) fun t47=>obind (z37b t8_95 t47) fun t48=>lett (IntKind.i64.wrap (t9+1)) fun (t42:Int)=>self t48 t42 h_96) (k46 t8_95 h_96)
noncomputable def z100(v13:AV)(k46:Bytes→AHeap→R):Nat→Bytes→Int→AHeap→R:=z122 (fun _ _ _=>none) (zd4 v13 k46)
theorem z15a(v13:AV)(k46:Bytes→AHeap→R)(m:Nat):z100 v13 k46 (m+1)=zd4 v13 k46 (z100 v13 k46 m):=rfl
noncomputable def z11b(call:z10)(n:Nat)(t0:Bytes)(h:AHeap):R:=
 lett (newH h 39 [.int .i64 0,.int .i64 0]) fun h_2=>
 callN (call 70 [z5 t0] h_2) fun r12 h_5=>
 obind (z166 0 r12) fun v13=>
 obind (z166 1 r12) fun v14=>
 obind (z17 .i64 v14) fun _=>
 obind (z12d v13) fun t16=>
 lett ((t16:Int) == 0) fun (t17:Bool)=>
 lett (fun (t24:Bool) (h_14:AHeap)=>
  ifB t24
  (
   obind (z22 h_14 2 ([.int .i64 0,.int .i64 0]:List AV) (z13 h)) fun h_18=>
   obind (z2c h_18 2 (z13 h)) fun w2=>
   some (.ret (.tup [.agg w2,z5 ([]:Bytes),.bool false]),h_18))
  (
   obind (z150 1 v13 0) fun t27=>
   obind (zc h_14 t27) fun v28=>
   obind (z20 v28) fun t28=>
   obind (z43 t28 8 16) fun t29=>
   obind (z150 1 v13 0) fun t32=>
   obind (zc h_14 t32) fun v33=>
   obind (z20 v33) fun t33=>
   obind (z43 t33 16 24) fun t34=>
   lett (newH h_14 39 [.int .i64 0,.int .i64 0]) fun h_30=>
   callN (call 71 [z5 t29] h_30) fun r30 h_32=>
   obind (z17 .i64 r30) fun t30=>
   chk (z340 h_32 (AHeap.next h_14) 39 [.int .i64 0,.int .i64 0]&&(z86 Try.prog h_32 9 t32 (z5 t33)&&(true&&true)))<|
   callN (call 71 [z5 t34] h_32) fun r35 h_36=>
   obind (z17 .i64 r35) fun t35=>
   chk (z340 h_36 (AHeap.next h_14) 39 [.int .i64 0,.int .i64 0]&&(true&&(true&&true)))<|
   obind (z22 h_36 2 ([.int .i64 t30,.int .i64 t35]:List AV) (z13 h_14)) fun h_40=>
   lett (fun (t8:Bytes) (h_47:AHeap)=>
    obind (zc h_47 (AV.ptr (AHeap.next h_14) 0)) fun v50=>
    obind (z17 .i64 v50) fun t50=>
    lett (decide (t50<1)) fun (t51:Bool)=>
    lett (fun (t56:Bool) (h_53:AHeap)=>
     lett (fun (t61:Bool) (h_56:AHeap)=>
      lett (fun (t66:Bool) (h_59:AHeap)=>
       lett (fun (t71:Bool) (h_62:AHeap)=>
        lett (fun (t78:Bool) (h_65:AHeap)=>
         ifB t78
         (
          obind (z22 h_65 2 ([.int .i64 0,.int .i64 0]:List AV) (z13 h)) fun h_69=>
          obind (z2c h_69 2 (z13 h)) fun w2_72=>
          some (.ret (.tup [.agg w2_72,z5 ([]:Bytes),.bool false]),h_69))
         (
          obind (z2c h_65 2 (z13 h_14)) fun t80=>
          obind (z22 h_65 2 t80 (z13 h)) fun h_75=>
          obind (z2c h_75 2 (z13 h)) fun w2_78=>
          some (.ret (.tup [.agg w2_78,z5 t8,.bool true]),h_75))) fun j78=>
        ifB t71
        (
         j78 true h_62)
        (
         obind (z2c h_62 2 (z13 h_14)) fun t73=>
         callN (call 45 [.agg t73,z5 t8] h_62) fun r75 h_80=>
         obind (z20 r75) fun t75=>
         lett (!eqS t75 t0) fun (t77:Bool)=>
         j78 t77 h_80)) fun j71=>
       ifB t66
       (
        j71 true h_59)
       (
        lett (decide ((z3b t8)>262144)) fun (t70:Bool)=>
        j71 t70 h_59)) fun j66=>
      ifB t61
      (
       j66 true h_56)
      (
       obind (zc h_56 (AV.ptr (AHeap.next h_14) 1)) fun v64=>
       obind (z17 .i64 v64) fun t64=>
       lett (decide (t64>1099511627776)) fun (t65:Bool)=>
       j66 t65 h_56)) fun j61=>
     ifB t56
     (
      j61 true h_53)
     (
      obind (zc h_53 (AV.ptr (AHeap.next h_14) 1)) fun v59=>
      obind (z17 .i64 v59) fun t59=>
      lett (decide (t59<0)) fun (t60:Bool)=>
      j61 t60 h_53)) fun j56=>
    ifB t51
    (
     j56 true h_47)
    (
     obind (zc h_47 (AV.ptr (AHeap.next h_14) 0)) fun v54=>
     obind (z17 .i64 v54) fun t54=>
     lett (decide (t54>1048576)) fun (t55:Bool)=>
     j56 t55 h_47)) fun k46=>
   z100 v13 k46 n ([]:Bytes) 1 h_40)) fun j24=>
 ifB t17
 (
  j24 true h_5)
 (
  obind (z150 1 v13 0) fun t20=>
  obind (zc h_5 t20) fun v21=>
  obind (z20 v21) fun t21=>
  lett (((z3b t21):Int) != 32) fun (t23:Bool)=>
  j24 t23 h_5)
set_option maxHeartbeats 4000000 in
set_option maxRecDepth 20000 in
theorem z344{call:z10}(hc:SaysAll Try.prog call){n:Nat}{t0:Bytes}{h:AHeap}{rR:ARes}{hR:AHeap}(hF:z11b call n t0 h=some (rR,hR)):Says Try.prog 47 [z5 t0] h rR hR:=by
 unfold z11b at hF;refine sO Try.func47 fun w0 m0=>wW [(0,z5 t0)] (oG fun n1=>W.r (oN 2 hF fun h_2 hF=>oA 3 (z5 ([]:Bytes)) (oA 4 (.bool false) (oV [(0,z5 t0),(2,(z13 h))] (n1 (oG fun n4=>W.r (oA 11 (z5 t0) (oC hc (some 12) hF fun r12 h_5 hF=>oA 10 r12 (oE 13 hF fun v13 hF=>oEi 14 hF fun t14 hF=>oA 5 v13 (oA 6 (.int .i64 t14) (oV [(0,z5 t0),(2,(z13 h)),(5,v13)] (n4 (oH fun n10 q10=>W.s (fun K11 n11 e11 q11 p11=>W.r (oA 15 v13 (oM 16 81 9 hF fun t16 hF=>oB 17 hF fun t17 hF=>oA 18 (.bool t17) ?_))))))))))))))));obtain⟨j24,e15,hF⟩:=z6 hF
 have J16:∀(t24:Bool) (h_14:AHeap),j24 t24 h_14=some (rR,hR)→WL Try.prog w0 m0 (Func.ntmps Try.f47) (Code.ops (y6 (y6 (y5 (y5 (z2a Try.f47)))))) 10 K11 [(0,z5 t0),(2,(z13 h)),(5,v13),(24,.bool t24)] [] h_14:=by
  intro t24 h_14 hF;rw[e15] at hF;refine oV [(0,z5 t0),(2,(z13 h)),(5,v13),(24,.bool t24)] (n11 ?_)
  cases t24 with
  |true=>
   refine oT hF fun hF=>oG fun n17=>W.r (oA 25 (.agg ([.int .i64 0,.int .i64 0]:List AV)) (oW 39 (.agg ([.int .i64 0,.int .i64 0]:List AV)) hF fun h_18 hF=>oA 3 (z5 ([]:Bytes)) (oA 4 (.bool false) (oV [(2,(z13 h)),(3,z5 ([]:Bytes)),(4,.bool false)] (n17 (oY (q10 ?_)))))));obtain⟨w2,e20,hF⟩:=z4 hF;exact lZ hF [.cell 2 39,.tmp 3,.tmp 4] [.agg w2,z5 ([]:Bytes),.bool false] (rY e20 (rT (rT zd)))
  |false=>
   refine oU hF fun hF=>oZ (n10 (oG fun n21=>W.draw (by kernel_rfl) (hc.ok w0) (plan:=[0,1,2,3,5,6,7,8,11,4,9,10,12]) (by kernel_rfl) (by kernel_rfl) (by kernel_rfl) (WD.a 0 (some 26) v13 h_14 ?_)));obtain⟨t27,e22,hF⟩:=z4 hF;refine WD.b 0 (some 27) t27 h_14 (z180 (P:=Try.prog) (h:=h_14) (t:=81) (e':=9) (k:=.i64) (by kernel_rfl) (by kernel_rfl) (by kernel_rfl) e22) ?_
   replace hF:=z4 hF;obtain⟨v28,e23,hF⟩:=hF
   replace hF:=z4 hF;obtain⟨t28,c24,hF⟩:=hF
   have c24:=z19 c24;subst c24;refine WD.b 1 (some 28) (z5 t28) h_14 (z14 (P:=Try.prog) (h:=h_14) (t:=9) (by kernel_rfl) e23) ?_;obtain⟨t29,e25,hF⟩:=z4 hF;refine WD.b 0 (some 29) (z5 t29) h_14 (z48 (P:=Try.prog) (h:=h_14) (t:=9) (A:=(some (.int .i64 8))) (B:=(some (.int .i64 16))) (by kernel_rfl) (.inl ⟨_,rfl⟩) (.inl ⟨_,rfl⟩) e25) (WD.a 0 (some 31) v13 h_14 ?_);obtain⟨t32,e26,hF⟩:=z4 hF;refine WD.b 0 (some 32) t32 h_14 (z180 (P:=Try.prog) (h:=h_14) (t:=81) (e':=9) (k:=.i64) (by kernel_rfl) (by kernel_rfl) (by kernel_rfl) e26) ?_
   replace hF:=z4 hF;obtain⟨v33,e27,hF⟩:=hF
   replace hF:=z4 hF;obtain⟨t33,c28,hF⟩:=hF
   have c28:=z19 c28;subst c28;refine WD.b 1 (some 33) (z5 t33) h_14 (z14 (P:=Try.prog) (h:=h_14) (t:=9) (by kernel_rfl) e27) ?_;obtain⟨t34,e29,hF⟩:=z4 hF;refine WD.b 0 (some 34) (z5 t34) h_14 (z48 (P:=Try.prog) (h:=h_14) (t:=9) (A:=(some (.int .i64 16))) (B:=(some (.int .i64 24))) (by kernel_rfl) (.inl ⟨_,rfl⟩) (.inl ⟨_,rfl⟩) e29) ?_;obtain⟨h_30,e31,hF⟩:=z6 hF;refine WD.val (d:=(some 7)) (v:=(z13 h_14)) (h':=h_30) (by kernel_rfl) (by kernel_rfl) (z3ed e31 (by kernel_rfl)) (k:=1) (by kernel_rfl) (fun e=>absurd e (by decide)) (by decide) ?_
   replace hF:=z18 hF;obtain⟨r30,h_32,e33,hF⟩:=hF
   replace hF:=z4 hF;obtain⟨t30,c34,hF⟩:=hF
   have c34:=z1a c34;subst c34;obtain⟨k35,hF⟩:=z74 hF;refine WD.call (d:=(some 30)) (by kernel_rfl) (by kernel_rfl) (by kernel_rfl) e33 (k:=2) (by kernel_rfl) (fun _=>(Eq.trans (by kernel_rfl) k35)) (by decide) ?_
   replace hF:=z18 hF;obtain⟨r35,h_36,e37,hF⟩:=hF
   replace hF:=z4 hF;obtain⟨t35,c38,hF⟩:=hF
   have c38:=z1a c38;subst c38;obtain⟨k39,hF⟩:=z74 hF;refine WD.call (d:=(some 35)) (by kernel_rfl) (by kernel_rfl) (by kernel_rfl) e37 (k:=2) (by kernel_rfl) (fun _=>(Eq.trans (by kernel_rfl) k39)) (by decide) (WD.a 0 (some 36) (.agg ([.int .i64 t30,.int .i64 t35]:List AV)) h_36 ?_);obtain⟨h_40,e41,hF⟩:=z4 hF;refine WD.eff (h':=h_40) (by kernel_rfl) (by kernel_rfl) (Eq.trans (by kernel_rfl) (z55 (P:=Try.prog) (h:=h_36) (t:=39) (v:=(.agg ([.int .i64 t30,.int .i64 t35]:List AV))) (by kernel_rfl) (by kernel_rfl) e41)) (k:=2) (by kernel_rfl) (fun _=>(by kernel_rfl)) (by decide) (WD.nil (gW [(0,z5 t0),(2,(z13 h)),(5,v13),(7,(z13 h_14))] (n21 (oG fun n42=>W.r (oA 8 (z5 ([]:Bytes)) (oV [(0,z5 t0),(2,(z13 h)),(5,v13),(7,(z13 h_14)),(8,z5 ([]:Bytes))] (n42 (W.s (fun K43 n43 e43 q43 p43=>oG fun n44=>W.r (oA 9 (.int .i64 1) (oV [(0,z5 t0),(2,(z13 h)),(5,v13),(7,(z13 h_14)),(8,z5 ([]:Bytes)),(9,.int .i64 1)] (n44 ?_))))))))))));obtain⟨k46,e46,hF⟩:=z6 hF
   have J46:∀(t8:Bytes) (h_47:AHeap),k46 t8 h_47=some (rR,hR)→Go w0 m0 (Func.ntmps Try.f47) (K43 .normal) [(0,z5 t0),(2,(z13 h)),(7,(z13 h_14)),(8,z5 t8)] [] h_47:=by
    intro t8 h_47 hF;rw[e46] at hF;refine n43 (oH fun n48 q48=>W.s (fun K49 n49 e49 q49 p49=>W.r (oA 49 (AV.ptr (AHeap.next h_14) 0) (oLi 50 3 hF fun t50 hF=>oB 51 hF fun t51 hF=>oA 52 (.bool t51) ?_))));obtain⟨j56,e54,hF⟩:=z6 hF
    have J55:∀(t56:Bool) (h_53:AHeap),j56 t56 h_53=some (rR,hR)→WL Try.prog w0 m0 (Func.ntmps Try.f47) (Code.ops (y6 (y6 (y5 (y5 (y5 (y5 (y5 (y5 (z2a Try.f47)))))))))) 8 K49 [(0,z5 t0),(2,(z13 h)),(7,(z13 h_14)),(8,z5 t8),(56,.bool t56)] [] h_53:=by
     intro t56 h_53 hF;rw[e54] at hF;refine oA 57 (.bool t56) ?_;obtain⟨j61,e57,hF⟩:=z6 hF
     have J58:∀(t61:Bool) (h_56:AHeap),j61 t61 h_56=some (rR,hR)→WL Try.prog w0 m0 (Func.ntmps Try.f47) (Code.ops (y6 (y6 (y5 (y5 (y5 (y5 (y5 (y5 (z2a Try.f47)))))))))) 13 K49 [(0,z5 t0),(2,(z13 h)),(7,(z13 h_14)),(8,z5 t8),(61,.bool t61)] [] h_56:=by
      intro t61 h_56 hF;rw[e57] at hF;refine oA 62 (.bool t61) ?_;obtain⟨j66,e60,hF⟩:=z6 hF
      have J61:∀(t66:Bool) (h_59:AHeap),j66 t66 h_59=some (rR,hR)→WL Try.prog w0 m0 (Func.ntmps Try.f47) (Code.ops (y6 (y6 (y5 (y5 (y5 (y5 (y5 (y5 (z2a Try.f47)))))))))) 18 K49 [(0,z5 t0),(2,(z13 h)),(7,(z13 h_14)),(8,z5 t8),(66,.bool t66)] [] h_59:=by
       intro t66 h_59 hF;rw[e60] at hF;refine oA 67 (.bool t66) ?_;obtain⟨j71,e63,hF⟩:=z6 hF
       have J64:∀(t71:Bool) (h_62:AHeap),j71 t71 h_62=some (rR,hR)→WL Try.prog w0 m0 (Func.ntmps Try.f47) (Code.ops (y6 (y6 (y5 (y5 (y5 (y5 (y5 (y5 (z2a Try.f47)))))))))) 23 K49 [(0,z5 t0),(2,(z13 h)),(7,(z13 h_14)),(8,z5 t8),(71,.bool t71)] [] h_62:=by
        intro t71 h_62 hF;rw[e63] at hF;refine oA 72 (.bool t71) ?_;obtain⟨j78,e66,hF⟩:=z6 hF
        have J67:∀(t78:Bool) (h_65:AHeap),j78 t78 h_65=some (rR,hR)→WL Try.prog w0 m0 (Func.ntmps Try.f47) (Code.ops (y6 (y6 (y5 (y5 (y5 (y5 (y5 (y5 (z2a Try.f47)))))))))) 30 K49 [(2,(z13 h)),(7,(z13 h_14)),(8,z5 t8),(78,.bool t78)] [] h_65:=by
         intro t78 h_65 hF;rw[e66] at hF;refine oV [(2,(z13 h)),(7,(z13 h_14)),(8,z5 t8),(78,.bool t78)] (n49 ?_)
         cases t78 with
         |true=>
          refine oT hF fun hF=>oG fun n68=>W.r (oA 79 (.agg ([.int .i64 0,.int .i64 0]:List AV)) (oW 39 (.agg ([.int .i64 0,.int .i64 0]:List AV)) hF fun h_69 hF=>oA 3 (z5 ([]:Bytes)) (oA 4 (.bool false) (oV [(2,(z13 h)),(3,z5 ([]:Bytes)),(4,.bool false)] (n68 (oY (q48 ?_)))))));obtain⟨w2_72,e71,hF⟩:=z4 hF;exact lZ hF [.cell 2 39,.tmp 3,.tmp 4] [.agg w2_72,z5 ([]:Bytes),.bool false] (rY e71 (rT (rT zd)))
         |false=>
          refine oU hF fun hF=>oZ (n48 (oG fun n73=>W.r (oR 80 39 hF fun t80 hF=>oA 81 (z5 t8) (oW 39 (.agg t80) hF fun h_75 hF=>oA 3 (z5 t8) (oA 4 (.bool true) (oV [(2,(z13 h)),(3,z5 t8),(4,.bool true)] (n73 (oY ?_))))))));obtain⟨w2_78,e77,hF⟩:=z4 hF;exact lZ hF [.cell 2 39,.tmp 3,.tmp 4] [.agg w2_78,z5 t8,.bool true] (rY e77 (rT (rT zd)))
        cases t71 with
        |true=>
         replace hF:=z4f hF
         exact WL.o (some 73) (WL.o (some 74) (WL.o (some 75) (WL.o (some 76) (WL.o (some 77) (oA 78 (.bool true) (lW _ (J67 _ _ hF)))))))
        |false=>
         replace hF:=z50 hF
         exact oR 73 39 hF fun t73 hF=>oA 74 (z5 t8) (oCs hc 75 hF fun t75 h_80 hF=>oA 76 (z5 t0) (oB 77 hF fun t77 hF=>oA 78 (.bool t77) (lW _ (J67 _ _ hF))))
       cases t66 with
       |true=>
        replace hF:=z4f hF
        exact WL.o (some 68) (WL.o (some 69) (WL.o (some 70) (oA 71 (.bool true) (lW _ (J64 _ _ hF)))))
       |false=>
        replace hF:=z50 hF
        exact oA 68 (z5 t8) (oA 69 (.int .i64 (z3b t8)) (oB 70 hF fun t70 hF=>oA 71 (.bool t70) (lW _ (J64 _ _ hF))))
      cases t61 with
      |true=>
       replace hF:=z4f hF
       exact WL.o (some 63) (WL.o (some 64) (WL.o (some 65) (oA 66 (.bool true) (lW _ (J61 _ _ hF)))))
      |false=>
       replace hF:=z50 hF
       exact oA 63 (AV.ptr (AHeap.next h_14) 1) (oLi 64 3 hF fun t64 hF=>oB 65 hF fun t65 hF=>oA 66 (.bool t65) (lW _ (J61 _ _ hF)))
     cases t56 with
     |true=>
      replace hF:=z4f hF
      exact WL.o (some 58) (WL.o (some 59) (WL.o (some 60) (oA 61 (.bool true) (lW _ (J58 _ _ hF)))))
     |false=>
      replace hF:=z50 hF
      exact oA 58 (AV.ptr (AHeap.next h_14) 1) (oLi 59 3 hF fun t59 hF=>oB 60 hF fun t60 hF=>oA 61 (.bool t60) (lW _ (J58 _ _ hF)))
    cases t51 with
    |true=>
     replace hF:=z4f hF
     exact WL.o (some 53) (WL.o (some 54) (WL.o (some 55) (oA 56 (.bool true) (lW _ (J55 _ _ hF)))))
    |false=>
     replace hF:=z50 hF
     exact oA 53 (AV.ptr (AHeap.next h_14) 0) (oLi 54 3 hF fun t54 hF=>oB 55 hF fun t55 hF=>oA 56 (.bool t55) (lW _ (J55 _ _ hF)))
   refine W.blockK (by kernel_rfl) (fun K45 n45 s45 o45 q45 p45=>W.loopK (by kernel_rfl) (fun I94 K94 b94 n94 e94 q94 p94=>?_))
   have L94:∀(m:Nat) (t8_95:Bytes) (t9:Int) (h_96:AHeap),z100 v13 k46 m t8_95 t9 h_96=some (rR,hR)→Go w0 m0 (Func.ntmps Try.f47) I94 [(0,z5 t0),(2,(z13 h)),(5,v13),(7,(z13 h_14)),(8,z5 t8_95),(9,.int .i64 t9)] [] h_96:=by
    intro m
    induction m with
    |zero=>intro t8_95 t9 h_96 hF;cases hF
    |succ m ih94=>
     intro t8_95 t9 h_96 hF;rw[z15a] at hF;unfold zd4 at hF;refine b94 (W.s (fun K97 n97 e97 q97 p97=>oG fun n98=>W.r (oA 37 (.int .i64 t9) (oA 38 v13 (oM 39 81 9 hF fun t39 hF=>oB 40 hF fun t40 hF=>oV [(0,z5 t0),(2,(z13 h)),(5,v13),(7,(z13 h_14)),(8,z5 t8_95),(9,.int .i64 t9),(40,.bool t40)] (n98 ?_))))))
     cases t40 with
     |true=>
      refine oT hF fun hF=>oZ (n97 (oG fun n101=>W.blockK (by kernel_rfl) (fun K102 n102 s102 o102 q102 p102=>W.r (oA 43 (z5 t8_95) (oA 44 v13 (oA 45 (.int .i64 t9) (oP 46 81 9 .i64 hF fun t46 hF=>oLs 47 9 hF fun t47 hF=>?_)))))));obtain⟨t48,e106,hF⟩:=z4 hF;exact WL.b (some 48) (z5 t48) h_96 (z110 (P:=Try.prog) (h:=h_96) (t:=9) (lit:=false) e106) (oA 8 (z5 t48) (oV [(0,z5 t0),(2,(z13 h)),(5,v13),(7,(z13 h_14)),(8,z5 t48),(9,.int .i64 t9)] (n102 (n101 (W.r (oA 41 (.int .i64 t9) (oI 42 .i64 hF fun t42 hF=>oA 9 (.int .i64 t42) (oV [(0,z5 t0),(2,(z13 h)),(5,v13),(7,(z13 h_14)),(8,z5 t48),(9,.int .i64 t42)] (n94 (gW _ (ih94 _ _ _ hF)))))))))))
     |false=>
      exact oU hF fun hF=>W.exit (by kernel_rfl) (e97 (e94 (s45 (by kernel_rfl) (gW _ (J46 _ _ hF)))))
   exact gW _ (L94 _ _ _ _ hF)
 cases t17 with
 |true=>
  replace hF:=z4f hF
  exact WL.o (some 19) (WL.o (some 20) (WL.o (some 21) (WL.o (some 22) (WL.o (some 23) (oA 24 (.bool true) (lW _ (J16 _ _ hF)))))))
 |false=>
  replace hF:=z50 hF
  exact oA 19 v13 (oP 20 81 9 .i64 hF fun t20 hF=>oLs 21 9 hF fun t21 hF=>oA 22 (.int .i64 (z3b t21)) (oB 23 hF fun t23 hF=>oA 24 (.bool t23) (lW _ (J16 _ _ hF))))
noncomputable def zd5(call:z10)(t0:AV)(h_2:AHeap)(k11:Bytes→Int→AHeap→R)(self:Bytes→Int→Int→AHeap→R)(t6_19:Bytes)(t7_20:Int)(t8:Int)(h_21:AHeap):R:=lett (decide (t8<4)) fun (t14:Bool)=>ifB t14 (lett (fun (t6_28:Bytes) (t7_29:Int) (h_30:AHeap)=>lett (IntKind.i64.wrap (t8+1)) fun (t16:Int)=>self t6_28 t7_29 t16 h_30) fun k27=>callN (call 44 [t0,.int .i64 t8] h_21) fun r19 h_33=>obind (z146 r19) fun t19=>lett (newH h_33 62 [.bool false,.str 0 0]) fun h_36=>obind (z22 h_36 2 t19 (z13 h_33)) fun h_38=>obind (zc h_38 (AV.ptr (AHeap.next h_33) 0)) fun v21=>obind (z33 v21) fun t21=>lett (!t21) fun (t22:Bool)=>ifB t22 (k27 t6_19 t7_20 h_38) (obind (zc h_38 (AV.ptr (AHeap.next h_33) 1)) fun v25=>obind (z20 v25) fun t25=>callN (call 47 [z5 t25] h_38) fun r26 h_48=>obind (z166 0 r26) fun v27=>obind (z146 v27) fun t27=>obind (z166 1 r26) fun v28=>obind (z20 v28) fun t28=>obind (z166 2 r26) fun v29=>obind (z33 v29) fun t29=>lett (newH h_48 39 [.int .i64 0,.int .i64 0]) fun h_56=>obind (z22 h_56 2 t27 (z13 h_48)) fun h_58=>lett (fun (t37:Bool) (h_61:AHeap)=>lett (fun (t6_65:Bytes) (t7_66:Int) (h_67:AHeap)=>k27 t6_65 t7_66 h_67) fun k64=>ifB t37 (obind (z2c h_61 2 (z13 h_48)) fun t38=>obind (z22 h_61 2 t38 (z13 h_2)) fun h_69=>k64 t28 t8 h_69) (k64 t6_19 t7_20 h_61)) fun j37=>ifB t29 (obind (zc h_58 (AV.ptr (AHeap.next h_48) 0)) fun v33=>obind (z17 .i64 v33) fun t33=>obind (zc h_58 (AV.ptr (AHeap.next h_2) 0)) fun v35=>obind (z17 .i64 v35) fun t35=>lett (decide (t33>t35)) fun (t36:Bool)=>j37 t36 h_58) (j37 false h_58))) (k11 t6_19 t7_20 h_21)
noncomputable def z5a(call:z10)(t0:AV)(h_2:AHeap)(k11:Bytes→Int→AHeap→R):Nat→Bytes→Int→Int→AHeap→R:=z122 (fun _ _ _ _=>none) (zd5 call t0 h_2 k11)
theorem z15b(call:z10)(t0:AV)(h_2:AHeap)(k11:Bytes→Int→AHeap→R)(m:Nat):z5a call t0 h_2 k11 (m+1)=zd5 call t0 h_2 k11 (z5a call t0 h_2 k11 m):=rfl
noncomputable def z14a(call:z10)(n:Nat)(t0:AV)(h:AHeap):R:=lett (newH h 39 [.int .i64 0,.int .i64 0]) fun h_2=>lett (newH h_2 39 [.int .i64 0,.int .i64 0]) fun h_5=>lett (fun (t6:Bytes) (t7:Int) (h_12:AHeap)=>obind (z2c h_12 2 (z13 h_2)) fun t41=>obind (z22 h_12 2 t41 (z13 h)) fun h_15=>obind (z2c h_15 2 (z13 h)) fun w2=>some (.ret (.tup [.agg w2,z5 t6,.int .i64 t7]),h_15)) fun k11=>z5a call t0 h_2 k11 n ([]:Bytes) (-1) 2 h_5
set_option maxHeartbeats 4000000 in
set_option maxRecDepth 20000 in
theorem z345{call:z10}(hc:SaysAll Try.prog call){n:Nat}{t0:AV}{h:AHeap}{rR:ARes}{hR:AHeap}(hF:z14a call n t0 h=some (rR,hR)):Says Try.prog 22 [t0] h rR hR:=by
 unfold z14a at hF;refine sO Try.func22 fun w0 m0=>wW [(0,t0)] (oG fun n1=>W.r (oN 2 hF fun h_2 hF=>oA 3 (z5 ([]:Bytes)) (oA 4 (.int .i64 0) (oV [(0,t0),(2,(z13 h))] (n1 (oG fun n4=>W.r (oN 5 hF fun h_5 hF=>oV [(0,t0),(2,(z13 h)),(5,(z13 h_2))] (n4 (oG fun n7=>W.r (oA 6 (z5 ([]:Bytes)) (oA 7 (.int .i64 (-1)) (oV [(0,t0),(2,(z13 h)),(5,(z13 h_2)),(6,z5 ([]:Bytes)),(7,.int .i64 (-1))] (n7 (W.s (fun K8 n8 e8 q8 p8=>oG fun n9=>W.r (oA 8 (.int .i64 2) (oV [(0,t0),(2,(z13 h)),(5,(z13 h_2)),(6,z5 ([]:Bytes)),(7,.int .i64 (-1)),(8,.int .i64 2)] (n9 ?_))))))))))))))))));obtain⟨k11,e11,hF⟩:=z6 hF
 have J11:∀(t6:Bytes) (t7:Int) (h_12:AHeap),k11 t6 t7 h_12=some (rR,hR)→Go w0 m0 (Func.ntmps Try.f22) (K8 .normal) [(2,(z13 h)),(5,(z13 h_2)),(6,z5 t6),(7,.int .i64 t7)] [] h_12:=by
  intro t6 t7 h_12 hF;rw[e11] at hF;refine n8 (oG fun n13=>W.r (oR 41 39 hF fun t41 hF=>oA 42 (z5 t6) (oA 43 (.int .i64 t7) (oW 39 (.agg t41) hF fun h_15 hF=>oA 3 (z5 t6) (oA 4 (.int .i64 t7) (oV [(2,(z13 h)),(3,z5 t6),(4,.int .i64 t7)] (n13 (oY ?_))))))));obtain⟨w2,e17,hF⟩:=z4 hF;exact lZ hF [.cell 2 39,.tmp 3,.tmp 4] [.agg w2,z5 t6,.int .i64 t7] (rY e17 (rT (rT zd)))
 refine W.blockK (by kernel_rfl) (fun K10 n10 s10 o10 q10 p10=>W.loopK (by kernel_rfl) (fun I18 K18 b18 n18 e18 q18 p18=>?_))
 have L18:∀(m:Nat) (t6_19:Bytes) (t7_20:Int) (t8:Int) (h_21:AHeap),z5a call t0 h_2 k11 m t6_19 t7_20 t8 h_21=some (rR,hR)→Go w0 m0 (Func.ntmps Try.f22) I18 [(0,t0),(2,(z13 h)),(5,(z13 h_2)),(6,z5 t6_19),(7,.int .i64 t7_20),(8,.int .i64 t8)] [] h_21:=by
  intro m
  induction m with
  |zero=>intro t6_19 t7_20 t8 h_21 hF;cases hF
  |succ m ih18=>
   intro t6_19 t7_20 t8 h_21 hF;rw[z15b] at hF;unfold zd5 at hF;refine b18 (W.s (fun K22 n22 e22 q22 p22=>oG fun n23=>W.r (oA 13 (.int .i64 t8) (oB 14 hF fun t14 hF=>oV [(0,t0),(2,(z13 h)),(5,(z13 h_2)),(6,z5 t6_19),(7,.int .i64 t7_20),(8,.int .i64 t8),(14,.bool t14)] (n23 ?_)))))
   cases t14 with
   |true=>
    refine oT hF fun hF=>oZ (n22 (W.s (fun K25 n25 e25 q25 p25=>?_)));obtain⟨k27,e27,hF⟩:=z6 hF
    have J27:∀(t6_28:Bytes) (t7_29:Int) (h_30:AHeap),k27 t6_28 t7_29 h_30=some (rR,hR)→Go w0 m0 (Func.ntmps Try.f22) (K25 .normal) [(0,t0),(2,(z13 h)),(5,(z13 h_2)),(6,z5 t6_28),(7,.int .i64 t7_29),(8,.int .i64 t8)] [] h_30:=by
     intro t6_28 t7_29 h_30 hF;rw[e27] at hF;exact n25 (W.r (oA 15 (.int .i64 t8) (oI 16 .i64 hF fun t16 hF=>oA 8 (.int .i64 t16) (oV [(0,t0),(2,(z13 h)),(5,(z13 h_2)),(6,z5 t6_28),(7,.int .i64 t7_29),(8,.int .i64 t16)] (n18 (gW _ (ih18 _ _ _ _ hF)))))))
    refine W.blockK (by kernel_rfl) (fun K26 n26 s26 o26 q26 p26=>oG fun n32=>W.r (oA 17 t0 (oA 18 (.int .i64 t8) (oCa hc 19 hF fun t19 h_33 hF=>oN 9 hF fun h_36 hF=>oW 62 (.agg t19) hF fun h_38 hF=>oV [(0,t0),(2,(z13 h)),(5,(z13 h_2)),(6,z5 t6_19),(7,.int .i64 t7_20),(8,.int .i64 t8),(9,(z13 h_33))] (n32 (W.s (fun K40 n40 e40 q40 p40=>oG fun n41=>W.r (oA 20 (AV.ptr (AHeap.next h_33) 0) (oLb 21 4 hF fun t21 hF=>oB 22 hF fun t22 hF=>oV [(0,t0),(2,(z13 h)),(5,(z13 h_2)),(6,z5 t6_19),(7,.int .i64 t7_20),(8,.int .i64 t8),(9,(z13 h_33)),(22,.bool t22)] (n41 ?_))))))))))
    cases t22 with
    |true=>
     exact oT hF fun hF=>W.exit (by kernel_rfl) (e40 (s26 (by kernel_rfl) (gW _ (J27 _ _ _ hF))))
    |false=>
     refine oU hF fun hF=>oZ (n40 (oG fun n45=>W.r (oA 24 (AV.ptr (AHeap.next h_33) 1) (oLs 25 9 hF fun t25 hF=>oC hc (some 26) hF fun r26 h_48 hF=>oA 23 r26 (oEa 27 hF fun t27 hF=>oEs 28 hF fun t28 hF=>oEb 29 hF fun t29 hF=>oN 10 hF fun h_56 hF=>oW 39 (.agg t27) hF fun h_58 hF=>oA 11 (z5 t28) (oA 12 (.bool t29) (oV [(0,t0),(2,(z13 h)),(5,(z13 h_2)),(6,z5 t6_19),(7,.int .i64 t7_20),(8,.int .i64 t8),(10,(z13 h_48)),(11,z5 t28),(12,.bool t29)] (n45 (W.s (fun K60 n60 e60 q60 p60=>W.r (oA 30 (.bool t29) (oA 31 (.bool t29) ?_))))))))))));obtain⟨j37,e62,hF⟩:=z6 hF
     have J63:∀(t37:Bool) (h_61:AHeap),j37 t37 h_61=some (rR,hR)→WL Try.prog w0 m0 (Func.ntmps Try.f22) (Code.ops (y6 (y5 (y5 (y5 (y6 (y6 (y5 (y6 (y6 (y5 (y6 (y5 (y5 (y5 (z2a Try.f22)))))))))))))))) 8 K60 [(0,t0),(2,(z13 h)),(5,(z13 h_2)),(6,z5 t6_19),(7,.int .i64 t7_20),(8,.int .i64 t8),(10,(z13 h_48)),(11,z5 t28),(37,.bool t37)] [] h_61:=by
      intro t37 h_61 hF;rw[e62] at hF;refine oV [(0,t0),(2,(z13 h)),(5,(z13 h_2)),(6,z5 t6_19),(7,.int .i64 t7_20),(8,.int .i64 t8),(10,(z13 h_48)),(11,z5 t28),(37,.bool t37)] (n60 ?_);obtain⟨k64,e64,hF⟩:=z6 hF
      have J64:∀(t6_65:Bytes) (t7_66:Int) (h_67:AHeap),k64 t6_65 t7_66 h_67=some (rR,hR)→Go w0 m0 (Func.ntmps Try.f22) (K26 .normal) [(0,t0),(2,(z13 h)),(5,(z13 h_2)),(6,z5 t6_65),(7,.int .i64 t7_66),(8,.int .i64 t8)] [] h_67:=by
       intro t6_65 t7_66 h_67 hF;rw[e64] at hF;exact n26 (gW _ (J27 _ _ _ hF))
      cases t37 with
      |true=>
       exact oT hF fun hF=>W.r (oR 38 39 hF fun t38 hF=>oA 39 (z5 t28) (oA 40 (.int .i64 t8) (oW 39 (.agg t38) hF fun h_69 hF=>oA 6 (z5 t28) (oA 7 (.int .i64 t8) (oV [(0,t0),(2,(z13 h)),(5,(z13 h_2)),(6,z5 t28),(7,.int .i64 t8),(8,.int .i64 t8)] (gW _ (J64 _ _ _ hF)))))))
      |false=>
       exact oU hF fun hF=>oZ (gW _ (J64 _ _ _ hF))
     cases t29 with
     |true=>
      replace hF:=z4f hF
      exact oA 32 (AV.ptr (AHeap.next h_48) 0) (oLi 33 3 hF fun t33 hF=>oA 34 (AV.ptr (AHeap.next h_2) 0) (oLi 35 3 hF fun t35 hF=>oB 36 hF fun t36 hF=>oA 37 (.bool t36) (lW _ (J63 _ _ hF))))
     |false=>
      replace hF:=z50 hF
      exact WL.o (some 32) (WL.o (some 33) (WL.o (some 34) (WL.o (some 35) (WL.o (some 36) (oA 37 (.bool false) (lW _ (J63 _ _ hF)))))))
   |false=>
    exact oU hF fun hF=>W.exit (by kernel_rfl) (e22 (e18 (s10 (by kernel_rfl) (gW _ (J11 _ _ _ hF)))))
 exact gW _ (L18 _ _ _ _ _ hF)
noncomputable def z149(call:z10)(_:Nat)(t0:AV)(t1:List AV)(t2:Bytes)(h:AHeap):R:=outK (zd9 h 39 (some (.agg t1))) fun v4 h_2=>obind (z53 t0) fun t15=>obind (z27 96 t15) fun t16=>obind (zc h_2 t16) fun v17=>obind (z17 .i64 v17) fun t17=>lett ((t17:Int) == 0) fun (t18:Bool)=>ifB t18 (some (.ret (.int .i64 40),h_2)) (obind (z27 0 v4) fun t20=>obind (zc h_2 t20) fun v21=>obind (z17 .i64 v21) fun t21=>lett (decide (t21<1)) fun (t22:Bool)=>lett (fun (t27:Bool) (h_18:AHeap)=>lett (fun (t32:Bool) (h_21:AHeap)=>lett (fun (t37:Bool) (h_24:AHeap)=>ifB t37 (some (.ret (.int .i64 2),h_24)) (lett (decide ((z3b t2)>262144)) fun (t41:Bool)=>ifB t41 (some (.ret (.int .i64 3),h_24)) (callN (call 22 [t0] h_24) fun r44 h_32=>obind (z166 0 r44) fun v45=>obind (z146 v45) fun t45=>obind (z166 1 r44) fun v46=>obind (z20 v46) fun _=>obind (z166 2 r44) fun v47=>obind (z17 .i64 v47) fun t47=>lett (newH h_32 39 [.int .i64 0,.int .i64 0]) fun h_40=>obind (z22 h_40 2 t45 (z13 h_32)) fun h_42=>lett (decide (t47≥0)) fun (t49:Bool)=>lett (fun (t56:Bool) (h_47:AHeap)=>ifB t56 (some (.ret (.int .i64 5),h_47)) (lett ((t47:Int) == 2) fun (t58:Bool)=>lett (fun (t10:Int) (h_56:AHeap)=>callN (call 44 [t0,.int .i64 t10] h_56) fun r61 h_59=>obind (z146 r61) fun t61=>obind (partF 0 t61) fun v62=>obind (z33 v62) fun t62=>lett (fun (h_65:AHeap)=>obind (z2c h_65 2 v4) fun t72=>callN (call 45 [.agg t72,z5 t2] h_65) fun r74 h_68=>obind (z20 r74) fun t74=>callN (call 27 [t0,.int .i64 t10,.agg ([.int .i64 1,z5 t74,.int .i64 0]:List AV)] h_68) fun r76 h_71=>obind (z17 .i64 r76) fun t76=>lett ((t76:Int) != 0) fun (t78:Bool)=>ifB t78 (some (.ret (.int .i64 t76),h_71)) (callN (call 46 [t0,.int .i64 t10] h_71) fun r82 h_79=>obind (z17 .i64 r82) fun t82=>some (.ret (.int .i64 t82),h_79))) fun k64=>ifB t62 (callN (call 27 [t0,.int .i64 t10,.agg ([.int .i64 3,.str 0 0,.int .i64 0]:List AV)] h_59) fun r66 h_83=>obind (z17 .i64 r66) fun t66=>lett ((t66:Int) != 0) fun (t68:Bool)=>ifB t68 (some (.ret (.int .i64 t66),h_83)) (k64 h_83)) (k64 h_59)) fun k55=>ifB t58 (k55 3 h_47) (k55 2 h_47))) fun j56=>ifB t49 (obind (z27 0 v4) fun t51=>obind (zc h_42 t51) fun v52=>obind (z17 .i64 v52) fun t52=>obind (zc h_42 (AV.ptr (AHeap.next h_32) 0)) fun v54=>obind (z17 .i64 v54) fun t54=>lett (decide (t52≤t54)) fun (t55:Bool)=>j56 t55 h_42) (j56 false h_42)))) fun j37=>ifB t32 (j37 true h_21) (obind (z27 1 v4) fun t34=>obind (zc h_21 t34) fun v35=>obind (z17 .i64 v35) fun t35=>lett (decide (t35>1099511627776)) fun (t36:Bool)=>j37 t36 h_21)) fun j32=>ifB t27 (j32 true h_18) (obind (z27 1 v4) fun t29=>obind (zc h_18 t29) fun v30=>obind (z17 .i64 v30) fun t30=>lett (decide (t30<0)) fun (t31:Bool)=>j32 t31 h_18)) fun j27=>ifB t22 (j27 true h_2) (obind (z27 0 v4) fun t24=>obind (zc h_2 t24) fun v25=>obind (z17 .i64 v25) fun t25=>lett (decide (t25>1048576)) fun (t26:Bool)=>j27 t26 h_2))
set_option maxHeartbeats 4000000 in
set_option maxRecDepth 20000 in
theorem z343{call:z10}(hc:SaysAll Try.prog call){n:Nat}{t0:AV}{t1:List AV}{t2:Bytes}{h:AHeap}{rR:ARes}{hR:AHeap}(hF:z149 call n t0 t1 t2 h=some (rR,hR)):Says Try.prog 21 [t0,.agg t1,z5 t2] h rR hR:=by
 unfold z149 at hF;refine sO Try.func21 fun w0 m0=>wW [(0,t0),(1,.agg t1),(2,z5 t2)] (oG fun n1=>W.r (oK 4 hF fun v4 h_2 hF=>oA 6 (.int .i64 0) (oV [(0,t0),(2,z5 t2),(4,v4)] (n1 (oH fun n4 q4=>W.blockK (by kernel_rfl) (fun K5 n5 s5 o5 q5 p5=>oG fun n6=>W.r (oA 14 t0 (oC0 15 hF fun t15 hF=>oF 16 68 1 hF fun t16 hF=>oLi 17 3 hF fun t17 hF=>oB 18 hF fun t18 hF=>oA 13 (.bool t18) (oV [(0,t0),(2,z5 t2),(4,v4),(13,.bool t18)] (n6 ?_))))))))))
 cases t18 with
 |true=>
  exact oT hF fun hF=>oG fun n12=>W.r (oA 6 (.int .i64 40) (oV [(6,.int .i64 40)] (n12 (oY (q5 (q4 (lZ hF [.tmp 6] [.int .i64 40] (rT zd))))))))
 |false=>
  refine oU hF fun hF=>W.s (fun K13 n13 e13 q13 p13=>W.r (oF 20 39 0 hF fun t20 hF=>oLi 21 3 hF fun t21 hF=>oB 22 hF fun t22 hF=>oA 23 (.bool t22) ?_));obtain⟨j27,e19,hF⟩:=z6 hF
  have J20:∀(t27:Bool) (h_18:AHeap),j27 t27 h_18=some (rR,hR)→WL Try.prog w0 m0 (Func.ntmps Try.f21) (Code.ops (y6 (y5 (y5 (y6 (y6 (y5 (z2a Try.f21)))))))) 8 K13 [(0,t0),(2,z5 t2),(4,v4),(27,.bool t27)] [] h_18:=by
   intro t27 h_18 hF;rw[e19] at hF;refine oA 28 (.bool t27) ?_;obtain⟨j32,e22,hF⟩:=z6 hF
   have J23:∀(t32:Bool) (h_21:AHeap),j32 t32 h_21=some (rR,hR)→WL Try.prog w0 m0 (Func.ntmps Try.f21) (Code.ops (y6 (y5 (y5 (y6 (y6 (y5 (z2a Try.f21)))))))) 13 K13 [(0,t0),(2,z5 t2),(4,v4),(32,.bool t32)] [] h_21:=by
    intro t32 h_21 hF;rw[e22] at hF;refine oA 33 (.bool t32) ?_;obtain⟨j37,e25,hF⟩:=z6 hF
    have J26:∀(t37:Bool) (h_24:AHeap),j37 t37 h_24=some (rR,hR)→WL Try.prog w0 m0 (Func.ntmps Try.f21) (Code.ops (y6 (y5 (y5 (y6 (y6 (y5 (z2a Try.f21)))))))) 18 K13 [(0,t0),(2,z5 t2),(4,v4),(37,.bool t37)] [] h_24:=by
     intro t37 h_24 hF;rw[e25] at hF;refine oA 19 (.bool t37) (oV [(0,t0),(2,z5 t2),(4,v4),(19,.bool t37)] (n13 ?_))
     cases t37 with
     |true=>
      exact oT hF fun hF=>oG fun n27=>W.r (oA 6 (.int .i64 2) (oV [(6,.int .i64 2)] (n27 (oY (q5 (q4 (lZ hF [.tmp 6] [.int .i64 2] (rT zd))))))))
     |false=>
      refine oU hF fun hF=>oG fun n28=>W.r (oA 39 (z5 t2) (oA 40 (.int .i64 (z3b t2)) (oB 41 hF fun t41 hF=>oA 38 (.bool t41) (oV [(0,t0),(2,z5 t2),(4,v4),(38,.bool t41)] (n28 ?_)))))
      cases t41 with
      |true=>
       exact oT hF fun hF=>oG fun n30=>W.r (oA 6 (.int .i64 3) (oV [(6,.int .i64 3)] (n30 (oY (q5 (q4 (lZ hF [.tmp 6] [.int .i64 3] (rT zd))))))))
      |false=>
       refine oU hF fun hF=>oZ (n5 (n4 (oG fun n31=>W.r (oA 43 t0 (oC hc (some 44) hF fun r44 h_32 hF=>oA 42 r44 (oEa 45 hF fun t45 hF=>oEs 46 hF fun t46 hF=>oEi 47 hF fun t47 hF=>oN 7 hF fun h_40 hF=>oW 39 (.agg t45) hF fun h_42 hF=>oA 8 (z5 t46) (oA 9 (.int .i64 t47) (oV [(0,t0),(2,z5 t2),(4,v4),(7,(z13 h_32)),(9,.int .i64 t47)] (n31 (oH fun n44 q44=>W.s (fun K45 n45 e45 q45 p45=>W.r (oA 48 (.int .i64 t47) (oB 49 hF fun t49 hF=>oA 50 (.bool t49) ?_)))))))))))));obtain⟨j56,e48,hF⟩:=z6 hF
       have J49:∀(t56:Bool) (h_47:AHeap),j56 t56 h_47=some (rR,hR)→WL Try.prog w0 m0 (Func.ntmps Try.f21) (Code.ops (y6 (y6 (y5 (y5 (y5 (z2a Try.f21))))))) 9 K45 [(0,t0),(2,z5 t2),(4,v4),(9,.int .i64 t47),(56,.bool t56)] [] h_47:=by
        intro t56 h_47 hF;rw[e48] at hF;refine oV [(0,t0),(2,z5 t2),(4,v4),(9,.int .i64 t47),(56,.bool t56)] (n45 ?_)
        cases t56 with
        |true=>
         exact oT hF fun hF=>oG fun n50=>W.r (oA 6 (.int .i64 5) (oV [(6,.int .i64 5)] (n50 (oY (q44 (lZ hF [.tmp 6] [.int .i64 5] (rT zd)))))))
        |false=>
         refine oU hF fun hF=>oZ (n44 (oG fun n51=>W.r (oA 10 (.int .i64 2) (oV [(0,t0),(2,z5 t2),(4,v4),(9,.int .i64 t47),(10,.int .i64 2)] (n51 (W.s (fun K52 n52 e52 q52 p52=>oG fun n53=>W.r (oA 57 (.int .i64 t47) (oB 58 hF fun t58 hF=>oV [(0,t0),(2,z5 t2),(4,v4),(10,.int .i64 2),(58,.bool t58)] (n53 ?_))))))))));obtain⟨k55,e55,hF⟩:=z6 hF
         have J55:∀(t10:Int) (h_56:AHeap),k55 t10 h_56=some (rR,hR)→Go w0 m0 (Func.ntmps Try.f21) (K52 .normal) [(0,t0),(2,z5 t2),(4,v4),(10,.int .i64 t10)] [] h_56:=by
          intro t10 h_56 hF;rw[e55] at hF;refine n52 (W.s (fun K57 n57 e57 q57 p57=>oG fun n58=>W.r (oA 59 t0 (oA 60 (.int .i64 t10) (oCa hc 61 hF fun t61 h_59 hF=>?_)))))
          replace hF:=z4 hF;obtain⟨v62,e62,hF⟩:=hF
          replace hF:=z4 hF;obtain⟨t62,c63,hF⟩:=hF
          have c63:=z24 c63;subst c63;refine WL.b (some 62) (.bool t62) h_59 (field_one (P:=Try.prog) (h:=h_59) (t:=62) (f:=0) (by kernel_rfl) e62) (oV [(0,t0),(2,z5 t2),(4,v4),(10,.int .i64 t10),(62,.bool t62)] (n58 ?_));obtain⟨k64,e64,hF⟩:=z6 hF
          have J64:∀(h_65:AHeap),k64 h_65=some (rR,hR)→Go w0 m0 (Func.ntmps Try.f21) (K57 .normal) [(0,t0),(2,z5 t2),(4,v4),(10,.int .i64 t10)] [] h_65:=by
           intro h_65 hF;rw[e64] at hF;refine n57 (oG fun n66=>W.r (oA 70 t0 (oA 71 (.int .i64 t10) (oR 72 39 hF fun t72 hF=>oA 73 (z5 t2) (oCs hc 74 hF fun t74 h_68 hF=>oA 75 (.agg ([.int .i64 1,z5 t74,.int .i64 0]:List AV)) (oCi hc 76 hF fun t76 h_71 hF=>oA 12 (.int .i64 t76) (oV [(0,t0),(10,.int .i64 t10),(12,.int .i64 t76)] (n66 (oH fun n74 q74=>oG fun n75=>W.r (oA 77 (.int .i64 t76) (oB 78 hF fun t78 hF=>oV [(0,t0),(10,.int .i64 t10),(12,.int .i64 t76),(78,.bool t78)] (n75 ?_))))))))))))
           cases t78 with
           |true=>
            exact oT hF fun hF=>oG fun n77=>W.r (oA 79 (.int .i64 t76) (oA 6 (.int .i64 t76) (oV [(6,.int .i64 t76)] (n77 (oY (q74 (lZ hF [.tmp 6] [.int .i64 t76] (rT zd))))))))
           |false=>
            exact oU hF fun hF=>oZ (n74 (oG fun n78=>W.r (oA 80 t0 (oA 81 (.int .i64 t10) (oCi hc 82 hF fun t82 h_79 hF=>oA 6 (.int .i64 t82) (oV [(6,.int .i64 t82)] (n78 (oY (lZ hF [.tmp 6] [.int .i64 t82] (rT zd))))))))))
          cases t62 with
          |true=>
           refine oT hF fun hF=>oG fun n82=>W.r (oA 63 t0 (oA 64 (.int .i64 t10) (oA 65 (.agg ([.int .i64 3,.str 0 0,.int .i64 0]:List AV)) (oCi hc 66 hF fun t66 h_83 hF=>oA 11 (.int .i64 t66) (oV [(0,t0),(2,z5 t2),(4,v4),(10,.int .i64 t10),(11,.int .i64 t66)] (n82 (oG fun n86=>W.r (oA 67 (.int .i64 t66) (oB 68 hF fun t68 hF=>oV [(0,t0),(2,z5 t2),(4,v4),(10,.int .i64 t10),(11,.int .i64 t66),(68,.bool t68)] (n86 ?_))))))))))
           cases t68 with
           |true=>
            exact oT hF fun hF=>oG fun n88=>W.r (oA 69 (.int .i64 t66) (oA 6 (.int .i64 t66) (oV [(6,.int .i64 t66)] (n88 (oY (q57 (lZ hF [.tmp 6] [.int .i64 t66] (rT zd))))))))
           |false=>
            exact oU hF fun hF=>oZ (gW _ (J64 _ hF))
          |false=>
           exact oU hF fun hF=>oZ (gW _ (J64 _ hF))
         cases t58 with
         |true=>
          exact oT hF fun hF=>W.r (oA 10 (.int .i64 3) (oV [(0,t0),(2,z5 t2),(4,v4),(10,.int .i64 3)] (gW _ (J55 _ _ hF))))
         |false=>
          exact oU hF fun hF=>oZ (gW _ (J55 _ _ hF))
       cases t49 with
       |true=>
        replace hF:=z4f hF
        exact oF 51 39 0 hF fun t51 hF=>oLi 52 3 hF fun t52 hF=>oA 53 (AV.ptr (AHeap.next h_32) 0) (oLi 54 3 hF fun t54 hF=>oB 55 hF fun t55 hF=>oA 56 (.bool t55) (lW _ (J49 _ _ hF)))
       |false=>
        replace hF:=z50 hF
        exact WL.o (some 51) (WL.o (some 52) (WL.o (some 53) (WL.o (some 54) (WL.o (some 55) (oA 56 (.bool false) (lW _ (J49 _ _ hF)))))))
    cases t32 with
    |true=>
     replace hF:=z4f hF
     exact WL.o (some 34) (WL.o (some 35) (WL.o (some 36) (oA 37 (.bool true) (lW _ (J26 _ _ hF)))))
    |false=>
     replace hF:=z50 hF
     exact oF 34 39 1 hF fun t34 hF=>oLi 35 3 hF fun t35 hF=>oB 36 hF fun t36 hF=>oA 37 (.bool t36) (lW _ (J26 _ _ hF))
   cases t27 with
   |true=>
    replace hF:=z4f hF
    exact WL.o (some 29) (WL.o (some 30) (WL.o (some 31) (oA 32 (.bool true) (lW _ (J23 _ _ hF)))))
   |false=>
    replace hF:=z50 hF
    exact oF 29 39 1 hF fun t29 hF=>oLi 30 3 hF fun t30 hF=>oB 31 hF fun t31 hF=>oA 32 (.bool t31) (lW _ (J23 _ _ hF))
  cases t22 with
  |true=>
   replace hF:=z4f hF
   exact WL.o (some 24) (WL.o (some 25) (WL.o (some 26) (oA 27 (.bool true) (lW _ (J20 _ _ hF)))))
  |false=>
   replace hF:=z50 hF
   exact oF 24 39 0 hF fun t24 hF=>oLi 25 3 hF fun t25 hF=>oB 26 hF fun t26 hF=>oA 27 (.bool t26) (lW _ (J20 _ _ hF))
noncomputable def zc0(t0:AV)(t7:Int)(k7:AHeap→R)(self:Int→Int→AHeap→R)(t3:Int)(t8:Int)(h_13:AHeap):R:=
 lett (decide (t8<t7)) fun (t9:Bool)=>
 ifB t9
 (
  obind (z150 6 t0 t8) fun t10=>
  obind (z2c h_13 6 t10) fun t11=>
  lett (newH h_13 57 [.int .i64 0,.int .i64 0,.int .i64 0,.int .i64 0,.str 0 0,.nsl]) fun h_22=>
  obind (z22 h_22 6 t11 (z13 h_13)) fun h_24=>
  obind (zc h_24 (AV.ptr (AHeap.next h_13) 4)) fun v14=>
  obind (z20 v14) fun t14=>
  lett (if 524288<(z3b t14) then 524288 else (z3b t14)) fun (t16:Int)=>
  lett (IntKind.i64.wrap (t3+t16)) fun (t17:Int)=>
  lett (decide (t17>262144)) fun (t19:Bool)=>
  ifB t19
  (
   some (.ret (.bool true),h_24))
  (
   lett (IntKind.i64.wrap (t8+1)) fun (t20:Int)=>
   self t17 t20 h_24))
 (
  k7 h_13)
noncomputable def zda(t0:AV)(t7:Int)(k7:AHeap→R):Nat→Int→Int→AHeap→R:=z122 (fun _ _ _=>none) (zc0 t0 t7 k7)
theorem z13a(t0:AV)(t7:Int)(k7:AHeap→R)(m:Nat):zda t0 t7 k7 (m+1)=zc0 t0 t7 k7 (zda t0 t7 k7 m):=rfl
noncomputable def z121(_:z10)(n:Nat)(t0:AV)(h:AHeap):R:=obind (z12d t0) fun t7=>lett (fun (h_8:AHeap)=>obind (z12d t0) fun t22=>lett (decide (t22>60)) fun (t23:Bool)=>some (.ret (.bool t23),h_8)) fun k7=>zda t0 t7 k7 n 0 0 h
set_option maxHeartbeats 4000000 in
set_option maxRecDepth 20000 in
theorem z2f2{call:z10}(_:SaysAll Try.prog call){n:Nat}{t0:AV}{h:AHeap}{rR:ARes}{hR:AHeap}(hF:z121 call n t0 h=some (rR,hR)):Says Try.prog 19 [t0] h rR hR:=by
 unfold z121 at hF;refine sO Try.func19 fun w0 m0=>wW [(0,t0)] (oG fun n1=>W.r (oA 2 (.bool false) (oV [(0,t0)] (n1 (oG fun n2=>W.r (oA 3 (.int .i64 0) (oV [(0,t0),(3,.int .i64 0)] (n2 (W.s (fun K3 n3 e3 q3 p3=>oG fun n4=>W.r (oA 6 t0 (oM 7 52 57 hF fun t7 hF=>oA 8 (.int .i64 0) (oV [(0,t0),(3,.int .i64 0),(6,t0),(7,.int .i64 t7),(8,.int .i64 0)] (n4 ?_))))))))))))));obtain⟨k7,e7,hF⟩:=z6 hF
 have J7:∀(h_8:AHeap),k7 h_8=some (rR,hR)→Go w0 m0 (Func.ntmps Try.f19) (K3 .normal) [(0,t0)] [] h_8:=by
  intro h_8 hF;rw[e7] at hF;exact n3 (oG fun n9=>W.r (oA 21 t0 (oM 22 52 57 hF fun t22 hF=>oB 23 hF fun t23 hF=>oA 2 (.bool t23) (oV [(2,.bool t23)] (n9 (oY (lZ hF [.tmp 2] [.bool t23] (rT zd))))))))
 refine W.blockK (by kernel_rfl) (fun K6 n6 s6 o6 q6 p6=>W.loopK (by kernel_rfl) (fun I12 K12 b12 n12 e12 q12 p12=>?_))
 have L12:∀(m:Nat) (t3:Int) (t8:Int) (h_13:AHeap),zda t0 t7 k7 m t3 t8 h_13=some (rR,hR)→Go w0 m0 (Func.ntmps Try.f19) I12 [(0,t0),(3,.int .i64 t3),(6,t0),(7,.int .i64 t7),(8,.int .i64 t8)] [] h_13:=by
  intro m
  induction m with
  |zero=>intro t3 t8 h_13 hF;cases hF
  |succ m ih12=>
   intro t3 t8 h_13 hF;rw[z13a] at hF;unfold zc0 at hF;refine b12 (oG fun n14=>W.r (oB 9 hF fun t9 hF=>oV [(0,t0),(3,.int .i64 t3),(6,t0),(7,.int .i64 t7),(8,.int .i64 t8),(9,.bool t9)] (n14 (W.s (fun K16 n16 e16 q16 p16=>?_)))))
   cases t9 with
   |true=>
    refine oT hF fun hF=>oZ (n16 (oH fun n17 q17=>W.blockK (by kernel_rfl) (fun K18 n18 s18 o18 q18 p18=>oG fun n19=>W.r (oP 10 52 57 .i64 hF fun t10 hF=>oR 11 57 hF fun t11 hF=>oN 5 hF fun h_22 hF=>oW 57 (.agg t11) hF fun h_24 hF=>oV [(0,t0),(3,.int .i64 t3),(5,(z13 h_13)),(6,t0),(7,.int .i64 t7),(8,.int .i64 t8)] (n19 (oG fun n26=>W.r (oA 12 (.int .i64 t3) (oA 13 (AV.ptr (AHeap.next h_13) 4) (oLs 14 9 hF fun t14 hF=>oA 15 (.int .i64 (z3b t14)) (oI 16 .i64 hF fun t16 hF=>oI 17 .i64 hF fun t17 hF=>oA 3 (.int .i64 t17) (oV [(0,t0),(3,.int .i64 t17),(6,t0),(7,.int .i64 t7),(8,.int .i64 t8)] (n26 (oG fun n31=>W.r (oA 18 (.int .i64 t17) (oB 19 hF fun t19 hF=>oV [(0,t0),(3,.int .i64 t17),(6,t0),(7,.int .i64 t7),(8,.int .i64 t8),(19,.bool t19)] (n31 ?_))))))))))))))))
    cases t19 with
    |true=>
     exact oT hF fun hF=>oG fun n33=>W.r (oA 2 (.bool true) (oV [(2,.bool true)] (n33 (oY (q18 (q17 (q12 (q6 (q3 (lZ hF [.tmp 2] [.bool true] (rT zd)))))))))))
    |false=>
     exact oU hF fun hF=>oZ (n18 (n17 (W.r (oI 20 .i64 hF fun t20 hF=>oA 8 (.int .i64 t20) (oV [(0,t0),(3,.int .i64 t17),(6,t0),(7,.int .i64 t7),(8,.int .i64 t20)] (n12 (gW _ (ih12 _ _ _ hF))))))))
   |false=>
    exact oU hF fun hF=>W.exit (by kernel_rfl) (e16 (e12 (s6 (by kernel_rfl) (gW _ (J7 _ hF)))))
 exact gW _ (L12 _ _ _ _ hF)
noncomputable def worldF(n:Nat)(call:z10):z10:=z184 [(13,gcF (fn0 (z19f call n))),(26,fn3 Dv (Di .i64) Ds (z7a call n)),(64,fn2 Dv (Di .i64) (zac call n)),(63,fn2 Dv (Di .i64) (z79 call n)),(17,fn1 Dv (z9c call n)),(23,fn2 Dv (Di .i64) (z9a call n)),(59,fn1 Dv (zfa call n)),(29,fn1 Dv (zc8 call n)),(50,fn2 Dv (Di .i64) (z6b call n)),(51,fn3 Dv (Di .i64) Da (z78 call n)),(72,fn2 Dv Dv (z99 call n)),(74,fn1 Dv (zab call n)),(53,gcF (fn1 (Di .i64) (zed call n))),(60,fn2 Dv (Di .i64) (zae call n)),(28,fn2 Dv (Di .i64) (zad call n)),(30,fn2 Dv (Di .i64) (z9b call n)),(25,fn3 Dv Dv (Di .i64) (z9d call n)),(49,fn3 Dv (Di .i64) (Di .i64) (z98 call n)),(73,fn1 Dv (z6a call n)),(86,fn1 Dv (z3a call n)),(100,gcF (fn2 (Di .u32) Ds (z1c3 call n))),(96,gcF (fn1 Ds (z300 call n))),(89,gcF (fn1 Ds (zf5 call n))),(99,gcF (fn1 Ds (z123 call n))),(82,gcF (fn1 Ds (z182 call n))),(93,gcF (fn1 Ds (z151 call n))),(87,fn1 Ds (z183 call n)),(90,gcF (fn1 (Di .u32) (z1c1 call n))),(66,gcF (fn1 (Di .u64) (z1c0 call n))),(78,gcF (fn1 Ds (z1c2 call n))),(83,gcF (fn2 (Di .u64) (Di .i64) (z114 call n))),(98,fn1 Dv (z8d call n)),(79,fn1 Dv (z8c call n)),(88,fn2 Dv (Di .i64) (z5e call n)),(94,fn1 Dv (z67 call n)),(95,fn3 Dv (Di .i64) (Di .i64) (z76 call n)),(32,gcF (fn2 Ds Ds (z68 call n))),(56,gcF (fn2 Ds Ds (z29 call n))),(33,fn2 Dv (Di .i64) (z49 call n)),(34,fn2 Dv Ds (z26 call n)),(36,fn1 Dv (z3d call n)),(57,fn1 Dv (z2e call n)),(58,fn2 Dv (Di .i64) (z52 call n)),(80,fn2 Dv Ds (zb7 call n)),(62,fn2 Dv (Di .i64) (z35 call n)),(81,fn2 Dv (Di .i64) (z36 call n)),(37,gcF (fn1 Ds (z148 call n))),(65,gcF (fn1 Ds (z118 call n))),(41,gcF (fn1 Da (za8 call n))),(40,gcF (fn1 Da (z117 call n))),(43,gcF (fn2 Da Ds (zf0 call n))),(38,fn1 Dv (z147 call n)),(11,gcF (fn0 (zc6 call n))),(12,fn2 Dv Da (za9 call n)),(20,gcF (fn0 (z15d call n))),(27,fn3 Dv (Di .i64) Da (z69 call n)),(46,fn2 Dv (Di .i64) (z93 call n)),(24,fn3 Dv Dv (Di .i64) (z77 call n)),(44,fn2 Dv (Di .i64) (zaa call n)),(52,fn3 Dv (Di .i64) (Di .i64) (z92 call n)),(67,gcF (fn1 Da (z11c call n))),(48,gcF (fn2 Da Da (z11d call n))),(70,fn1 Ds (z14d call n)),(85,gcF (fn1 Ds (z14c call n))),(68,gcF (fn1 Ds (z17c call n))),(69,gcF (fn2 (Di .u64) (Di .i64) (zf2 call n))),(84,gcF (fn1 Ds (z1c5 call n))),(91,gcF (fn2 (Di .u32) Ds (z14f call n))),(97,gcF (fn2 (Di .u32) (Di .u32) (z14e call n))),(45,gcF (fn2 Da Ds (z14b call n))),(71,gcF (fn1 Ds (zf1 call n))),(47,gcF (fn1 Ds (z11b call n))),(22,fn1 Dv (z14a call n)),(21,fn3 Dv Da Ds (z149 call n)),(19,fn1 Dv (z121 call n))]
set_option maxRecDepth 20000 in
theorem z499(n:Nat)(call:z10)(hc:SaysAll Try.prog call):SaysAll Try.prog (worldF n call):=(z9 (z25 (z227 (z416 hc)))
 (z9 (zc2 Dv (Di .i64) Ds (z201 hc))
 (z9 (z30 Dv (Di .i64) (z25e hc))
 (z9 (z30 Dv (Di .i64) (z200 hc))
 (z9 (z1e Dv (z231 hc))
 (z9 (z30 Dv (Di .i64) (z22f hc))
 (z9 (z1e Dv (z2cf hc))
 (z9 (z1e Dv (z285 hc))
 (z9 (z30 Dv (Di .i64) (z1de hc))
 (z9 (zc2 Dv (Di .i64) Da (z1ff hc))
 (z9 (z30 Dv Dv (z22e hc))
 (z9 (z1e Dv (z25d hc))
 (z9 (z25 (z1e (Di .i64) (z2fa hc)))
 (z9 (z30 Dv (Di .i64) (z260 hc))
 (z9 (z30 Dv (Di .i64) (z25f hc))
 (z9 (z30 Dv (Di .i64) (z230 hc))
 (z9 (zc2 Dv Dv (Di .i64) (z232 hc))
 (z9 (zc2 Dv (Di .i64) (Di .i64) (z22d hc))
 (z9 (z1e Dv (z1dd hc))
 (z9 (z1e Dv (z13f hc))
 (z9 (z25 (z30 (Di .u32) Ds (z3f0 hc)))
 (z9 (z25 (z1e Ds (z4a2 hc)))
 (z9 (z25 (z1e Ds (z2c0 hc)))
 (z9 (z25 (z1e Ds (z2f7 hc)))
 (z9 (z25 (z1e Ds (z3c8 hc)))
 (z9 (z25 (z1e Ds (z361 hc)))
 (z9 (z1e Ds (z3c9 hc))
 (z9 (z25 (z1e (Di .u32) (z3e7 hc)))
 (z9 (z25 (z1e (Di .u64) (z3e6 hc)))
 (z9 (z25 (z1e Ds (z3e8 hc)))
 (z9 (z25 (z30 (Di .u64) (Di .i64) (z2e2 hc)))
 (z9 (z1e Dv (z207 hc))
 (z9 (z1e Dv (z206 hc))
 (z9 (z30 Dv (Di .i64) (z1b0 hc))
 (z9 (z1e Dv (z1d5 hc))
 (z9 (zc2 Dv (Di .i64) (Di .i64) (z1ea hc))
 (z9 (z25 (z30 Ds Ds (z1d8 hc)))
 (z9 (z25 (z30 Ds Ds (z10a hc)))
 (z9 (z30 Dv (Di .i64) (z18d hc))
 (z9 (z30 Dv Ds (z131 hc))
 (z9 (z1e Dv (z170 hc))
 (z9 (z1e Dv (z13d hc))
 (z9 (z30 Dv (Di .i64) (z18c hc))
 (z9 (z30 Dv Ds (z29b hc))
 (z9 (z30 Dv (Di .i64) (z137 hc))
 (z9 (z30 Dv (Di .i64) (z16a hc))
 (z9 (z25 (z1e Ds (z33d hc)))
 (z9 (z25 (z1e Ds (z2ec hc)))
 (z9 (z25 (z1e Da (z244 hc)))
 (z9 (z25 (z1e Da (z2eb hc)))
 (z9 (z25 (z30 Da Ds (z29f hc)))
 (z9 (z1e Dv (z33c hc))
 (z9 (z25 (z227 (z280 hc)))
 (z9 (z30 Dv Da (z245 hc))
 (z9 (z25 (z227 (z3a8 hc)))
 (z9 (zc2 Dv (Di .i64) Da (z1da hc))
 (z9 (z30 Dv (Di .i64) (z217 hc))
 (z9 (zc2 Dv Dv (Di .i64) (z1f4 hc))
 (z9 (z30 Dv (Di .i64) (z24d hc))
 (z9 (zc2 Dv (Di .i64) (Di .i64) (z216 hc))
 (z9 (z25 (z1e Da (z347 hc)))
 (z9 (z25 (z30 Da Da (z348 hc)))
 (z9 (z1e Ds (z34a hc))
 (z9 (z25 (z1e Ds (z349 hc)))
 (z9 (z25 (z1e Ds (z3a9 hc)))
 (z9 (z25 (z30 (Di .u64) (Di .i64) (z2a7 hc)))
 (z9 (z25 (z1e Ds (z3f6 hc)))
 (z9 (z25 (z30 (Di .u32) Ds (z34c hc)))
 (z9 (z25 (z30 (Di .u32) (Di .u32) (z34b hc)))
 (z9 (z25 (z30 Da Ds (z346 hc)))
 (z9 (z25 (z1e Ds (z2a6 hc)))
 (z9 (z25 (z1e Ds (z344 hc)))
 (z9 (z1e Dv (z345 hc))
 (z9 (zc2 Dv Da Ds (z343 hc))
 (z9 (z1e Dv (z2f2 hc))
 z32b)))))))))))))))))))))))))))))))))))))))))))))))))))))))))))))))))))))))))))
noncomputable def world(n d:Nat):z10:=iterW (worldF n) d
theorem world_ok(n d:Nat):SaysAll Try.prog (world n d):=z441 (z499 n) d
theorem z469(n d:Nat)(h:AHeap):world n (d+1) 13 [] h=gcR h (z19f (world n d) n h):=
 Eq.trans (b:=gcR h (fn0 (z19f (world n d) n) [] h)) (by kernel_rfl) (congrArg (gcR h) (z446 _ h))
theorem z20d(n d:Nat)(t0:AV)(t1:Int)(t2:Bytes)(h:AHeap):world n (d+1) 26 [t0,.int .i64 t1,z5 t2] h=z7a (world n d) n t0 t1 t2 h:=
 Eq.trans (b:=fn3 Dv (Di .i64) Ds (z7a (world n d) n) [t0,.int .i64 t1,z5 t2] h) (by kernel_rfl) (z1bb Dv (Di .i64) Ds _ t0 t1 t2 h)
theorem z27c(n d:Nat)(t0:AV)(t1:Int)(h:AHeap):world n (d+1) 64 [t0,.int .i64 t1] h=zac (world n d) n t0 t1 h:=
 Eq.trans (b:=fn2 Dv (Di .i64) (zac (world n d) n) [t0,.int .i64 t1] h) (by kernel_rfl) (z87 Dv (Di .i64) _ t0 t1 h)
theorem z20c(n d:Nat)(t0:AV)(t1:Int)(h:AHeap):world n (d+1) 63 [t0,.int .i64 t1] h=z79 (world n d) n t0 t1 h:=
 Eq.trans (b:=fn2 Dv (Di .i64) (z79 (world n d) n) [t0,.int .i64 t1] h) (by kernel_rfl) (z87 Dv (Di .i64) _ t0 t1 h)
theorem z241(n d:Nat)(t0:AV)(h:AHeap):world n (d+1) 17 [t0] h=z9c (world n d) n t0 h:=
 Eq.trans (b:=fn1 Dv (z9c (world n d) n) [t0] h) (by kernel_rfl) (z54 Dv _ t0 h)
theorem z23f(n d:Nat)(t0:AV)(t1:Int)(h:AHeap):world n (d+1) 23 [t0,.int .i64 t1] h=z9a (world n d) n t0 t1 h:=
 Eq.trans (b:=fn2 Dv (Di .i64) (z9a (world n d) n) [t0,.int .i64 t1] h) (by kernel_rfl) (z87 Dv (Di .i64) _ t0 t1 h)
theorem z2e7(n d:Nat)(t0:AV)(h:AHeap):world n (d+1) 59 [t0] h=zfa (world n d) n t0 h:=
 Eq.trans (b:=fn1 Dv (zfa (world n d) n) [t0] h) (by kernel_rfl) (z54 Dv _ t0 h)
theorem z293(n d:Nat)(t0:AV)(h:AHeap):world n (d+1) 29 [t0] h=zc8 (world n d) n t0 h:=
 Eq.trans (b:=fn1 Dv (zc8 (world n d) n) [t0] h) (by kernel_rfl) (z54 Dv _ t0 h)
theorem z1ef(n d:Nat)(t0:AV)(t1:Int)(h:AHeap):world n (d+1) 50 [t0,.int .i64 t1] h=z6b (world n d) n t0 t1 h:=
 Eq.trans (b:=fn2 Dv (Di .i64) (z6b (world n d) n) [t0,.int .i64 t1] h) (by kernel_rfl) (z87 Dv (Di .i64) _ t0 t1 h)
theorem z20b(n d:Nat)(t0:AV)(t1:Int)(t2:List AV)(h:AHeap):world n (d+1) 51 [t0,.int .i64 t1,.agg t2] h=z78 (world n d) n t0 t1 t2 h:=
 Eq.trans (b:=fn3 Dv (Di .i64) Da (z78 (world n d) n) [t0,.int .i64 t1,.agg t2] h) (by kernel_rfl) (z1bb Dv (Di .i64) Da _ t0 t1 t2 h)
theorem z23e(n d:Nat)(t0:AV)(t1:AV)(h:AHeap):world n (d+1) 72 [t0,t1] h=z99 (world n d) n t0 t1 h:=
 Eq.trans (b:=fn2 Dv Dv (z99 (world n d) n) [t0,t1] h) (by kernel_rfl) (z87 Dv Dv _ t0 t1 h)
theorem z27b(n d:Nat)(t0:AV)(h:AHeap):world n (d+1) 74 [t0] h=zab (world n d) n t0 h:=
 Eq.trans (b:=fn1 Dv (zab (world n d) n) [t0] h) (by kernel_rfl) (z54 Dv _ t0 h)
theorem z335(n d:Nat)(t0:Int)(h:AHeap):world n (d+1) 53 [.int .i64 t0] h=gcR h (zed (world n d) n t0 h):=
 Eq.trans (b:=gcR h (fn1 (Di .i64) (zed (world n d) n) [.int .i64 t0] h)) (by kernel_rfl) (congrArg (gcR h) (z54 (Di .i64) _ t0 h))
theorem z27e(n d:Nat)(t0:AV)(t1:Int)(h:AHeap):world n (d+1) 60 [t0,.int .i64 t1] h=zae (world n d) n t0 t1 h:=
 Eq.trans (b:=fn2 Dv (Di .i64) (zae (world n d) n) [t0,.int .i64 t1] h) (by kernel_rfl) (z87 Dv (Di .i64) _ t0 t1 h)
theorem z27d(n d:Nat)(t0:AV)(t1:Int)(h:AHeap):world n (d+1) 28 [t0,.int .i64 t1] h=zad (world n d) n t0 t1 h:=
 Eq.trans (b:=fn2 Dv (Di .i64) (zad (world n d) n) [t0,.int .i64 t1] h) (by kernel_rfl) (z87 Dv (Di .i64) _ t0 t1 h)
theorem z240(n d:Nat)(t0:AV)(t1:Int)(h:AHeap):world n (d+1) 30 [t0,.int .i64 t1] h=z9b (world n d) n t0 t1 h:=
 Eq.trans (b:=fn2 Dv (Di .i64) (z9b (world n d) n) [t0,.int .i64 t1] h) (by kernel_rfl) (z87 Dv (Di .i64) _ t0 t1 h)
theorem z242(n d:Nat)(t0:AV)(t1:AV)(t2:Int)(h:AHeap):world n (d+1) 25 [t0,t1,.int .i64 t2] h=z9d (world n d) n t0 t1 t2 h:=
 Eq.trans (b:=fn3 Dv Dv (Di .i64) (z9d (world n d) n) [t0,t1,.int .i64 t2] h) (by kernel_rfl) (z1bb Dv Dv (Di .i64) _ t0 t1 t2 h)
theorem z23d(n d:Nat)(t0:AV)(t1:Int)(t2:Int)(h:AHeap):world n (d+1) 49 [t0,.int .i64 t1,.int .i64 t2] h=z98 (world n d) n t0 t1 t2 h:=
 Eq.trans (b:=fn3 Dv (Di .i64) (Di .i64) (z98 (world n d) n) [t0,.int .i64 t1,.int .i64 t2] h) (by kernel_rfl) (z1bb Dv (Di .i64) (Di .i64) _ t0 t1 t2 h)
theorem z1ee(n d:Nat)(t0:AV)(h:AHeap):world n (d+1) 73 [t0] h=z6a (world n d) n t0 h:=
 Eq.trans (b:=fn1 Dv (z6a (world n d) n) [t0] h) (by kernel_rfl) (z54 Dv _ t0 h)
theorem z153(n d:Nat)(t0:AV)(h:AHeap):world n (d+1) 86 [t0] h=z3a (world n d) n t0 h:=
 Eq.trans (b:=fn1 Dv (z3a (world n d) n) [t0] h) (by kernel_rfl) (z54 Dv _ t0 h)
theorem z467(n d:Nat)(t0:Int)(t1:Bytes)(h:AHeap):world n (d+1) 100 [.int .u32 t0,z5 t1] h=gcR h (z1c3 (world n d) n t0 t1 h):=
 Eq.trans (b:=gcR h (fn2 (Di .u32) Ds (z1c3 (world n d) n) [.int .u32 t0,z5 t1] h)) (by kernel_rfl) (congrArg (gcR h) (z87 (Di .u32) Ds _ t0 t1 h))
theorem w_sum_Of(n d:Nat)(t0:Bytes)(h:AHeap):world n (d+1) 96 [z5 t0] h=gcR h (z300 (world n d) n t0 h):=
 Eq.trans (b:=gcR h (fn1 Ds (z300 (world n d) n) [z5 t0] h)) (by kernel_rfl) (congrArg (gcR h) (z54 Ds _ t0 h))
theorem z2e6(n d:Nat)(t0:Bytes)(h:AHeap):world n (d+1) 89 [z5 t0] h=gcR h (zf5 (world n d) n t0 h):=
 Eq.trans (b:=gcR h (fn1 Ds (zf5 (world n d) n) [z5 t0] h)) (by kernel_rfl) (congrArg (gcR h) (z54 Ds _ t0 h))
theorem z334(n d:Nat)(t0:Bytes)(h:AHeap):world n (d+1) 99 [z5 t0] h=gcR h (z123 (world n d) n t0 h):=
 Eq.trans (b:=gcR h (fn1 Ds (z123 (world n d) n) [z5 t0] h)) (by kernel_rfl) (congrArg (gcR h) (z54 Ds _ t0 h))
theorem z3eb(n d:Nat)(t0:Bytes)(h:AHeap):world n (d+1) 82 [z5 t0] h=gcR h (z182 (world n d) n t0 h):=
 Eq.trans (b:=gcR h (fn1 Ds (z182 (world n d) n) [z5 t0] h)) (by kernel_rfl) (congrArg (gcR h) (z54 Ds _ t0 h))
theorem z389(n d:Nat)(t0:Bytes)(h:AHeap):world n (d+1) 93 [z5 t0] h=gcR h (z151 (world n d) n t0 h):=
 Eq.trans (b:=gcR h (fn1 Ds (z151 (world n d) n) [z5 t0] h)) (by kernel_rfl) (congrArg (gcR h) (z54 Ds _ t0 h))
theorem z3ec(n d:Nat)(t0:Bytes)(h:AHeap):world n (d+1) 87 [z5 t0] h=z183 (world n d) n t0 h:=
 Eq.trans (b:=fn1 Ds (z183 (world n d) n) [z5 t0] h) (by kernel_rfl) (z54 Ds _ t0 h)
theorem z465(n d:Nat)(t0:Int)(h:AHeap):world n (d+1) 90 [.int .u32 t0] h=gcR h (z1c1 (world n d) n t0 h):=
 Eq.trans (b:=gcR h (fn1 (Di .u32) (z1c1 (world n d) n) [.int .u32 t0] h)) (by kernel_rfl) (congrArg (gcR h) (z54 (Di .u32) _ t0 h))
theorem z464(n d:Nat)(t0:Int)(h:AHeap):world n (d+1) 66 [.int .u64 t0] h=gcR h (z1c0 (world n d) n t0 h):=
 Eq.trans (b:=gcR h (fn1 (Di .u64) (z1c0 (world n d) n) [.int .u64 t0] h)) (by kernel_rfl) (congrArg (gcR h) (z54 (Di .u64) _ t0 h))
theorem z466(n d:Nat)(t0:Bytes)(h:AHeap):world n (d+1) 78 [z5 t0] h=gcR h (z1c2 (world n d) n t0 h):=
 Eq.trans (b:=gcR h (fn1 Ds (z1c2 (world n d) n) [z5 t0] h)) (by kernel_rfl) (congrArg (gcR h) (z54 Ds _ t0 h))
theorem z330(n d:Nat)(t0:Int)(t1:Int)(h:AHeap):world n (d+1) 83 [.int .u64 t0,.int .i64 t1] h=gcR h (z114 (world n d) n t0 t1 h):=
 Eq.trans (b:=gcR h (fn2 (Di .u64) (Di .i64) (z114 (world n d) n) [.int .u64 t0,.int .i64 t1] h)) (by kernel_rfl) (congrArg (gcR h) (z87 (Di .u64) (Di .i64) _ t0 t1 h))
theorem z23a(n d:Nat)(t0:AV)(h:AHeap):world n (d+1) 98 [t0] h=z8d (world n d) n t0 h:=
 Eq.trans (b:=fn1 Dv (z8d (world n d) n) [t0] h) (by kernel_rfl) (z54 Dv _ t0 h)
theorem z239(n d:Nat)(t0:AV)(h:AHeap):world n (d+1) 79 [t0] h=z8c (world n d) n t0 h:=
 Eq.trans (b:=fn1 Dv (z8c (world n d) n) [t0] h) (by kernel_rfl) (z54 Dv _ t0 h)
theorem z1d6(n d:Nat)(t0:AV)(t1:Int)(h:AHeap):world n (d+1) 88 [t0,.int .i64 t1] h=z5e (world n d) n t0 t1 h:=
 Eq.trans (b:=fn2 Dv (Di .i64) (z5e (world n d) n) [t0,.int .i64 t1] h) (by kernel_rfl) (z87 Dv (Di .i64) _ t0 t1 h)
theorem z1eb(n d:Nat)(t0:AV)(h:AHeap):world n (d+1) 94 [t0] h=z67 (world n d) n t0 h:=
 Eq.trans (b:=fn1 Dv (z67 (world n d) n) [t0] h) (by kernel_rfl) (z54 Dv _ t0 h)
theorem z209(n d:Nat)(t0:AV)(t1:Int)(t2:Int)(h:AHeap):world n (d+1) 95 [t0,.int .i64 t1,.int .i64 t2] h=z76 (world n d) n t0 t1 t2 h:=
 Eq.trans (b:=fn3 Dv (Di .i64) (Di .i64) (z76 (world n d) n) [t0,.int .i64 t1,.int .i64 t2] h) (by kernel_rfl) (z1bb Dv (Di .i64) (Di .i64) _ t0 t1 t2 h)
theorem z1ec(n d:Nat)(t0:Bytes)(t1:Bytes)(h:AHeap):world n (d+1) 32 [z5 t0,z5 t1] h=gcR h (z68 (world n d) n t0 t1 h):=
 Eq.trans (b:=gcR h (fn2 Ds Ds (z68 (world n d) n) [z5 t0,z5 t1] h)) (by kernel_rfl) (congrArg (gcR h) (z87 Ds Ds _ t0 t1 h))
theorem z111(n d:Nat)(t0:Bytes)(t1:Bytes)(h:AHeap):world n (d+1) 56 [z5 t0,z5 t1] h=gcR h (z29 (world n d) n t0 t1 h):=
 Eq.trans (b:=gcR h (fn2 Ds Ds (z29 (world n d) n) [z5 t0,z5 t1] h)) (by kernel_rfl) (congrArg (gcR h) (z87 Ds Ds _ t0 t1 h))
theorem z113(n d:Nat)(t0:AV)(t1:Int)(h:AHeap):world n (d+1) 33 [t0,.int .i64 t1] h=z49 (world n d) n t0 t1 h:=
 Eq.trans (b:=fn2 Dv (Di .i64) (z49 (world n d) n) [t0,.int .i64 t1] h) (by kernel_rfl) (z87 Dv (Di .i64) _ t0 t1 h)
theorem za0(n d:Nat)(t0:AV)(t1:Bytes)(h:AHeap):world n (d+1) 34 [t0,z5 t1] h=z26 (world n d) n t0 t1 h:=
 Eq.trans (b:=fn2 Dv Ds (z26 (world n d) n) [t0,z5 t1] h) (by kernel_rfl) (z87 Dv Ds _ t0 t1 h)
theorem zef(n d:Nat)(t0:AV)(h:AHeap):world n (d+1) 36 [t0] h=z3d (world n d) n t0 h:=
 Eq.trans (b:=fn1 Dv (z3d (world n d) n) [t0] h) (by kernel_rfl) (z54 Dv _ t0 h)
theorem zb5(n d:Nat)(t0:AV)(h:AHeap):world n (d+1) 57 [t0] h=z2e (world n d) n t0 h:=
 Eq.trans (b:=fn1 Dv (z2e (world n d) n) [t0] h) (by kernel_rfl) (z54 Dv _ t0 h)
theorem z1ac(n d:Nat)(t0:AV)(t1:Int)(h:AHeap):world n (d+1) 58 [t0,.int .i64 t1] h=z52 (world n d) n t0 t1 h:=
 Eq.trans (b:=fn2 Dv (Di .i64) (z52 (world n d) n) [t0,.int .i64 t1] h) (by kernel_rfl) (z87 Dv (Di .i64) _ t0 t1 h)
theorem z1e0(n d:Nat)(t0:AV)(t1:Bytes)(h:AHeap):world n (d+1) 80 [t0,z5 t1] h=zb7 (world n d) n t0 t1 h:=
 Eq.trans (b:=fn2 Dv Ds (zb7 (world n d) n) [t0,z5 t1] h) (by kernel_rfl) (z87 Dv Ds _ t0 t1 h)
theorem z13c(n d:Nat)(t0:AV)(t1:Int)(h:AHeap):world n (d+1) 62 [t0,.int .i64 t1] h=z35 (world n d) n t0 t1 h:=
 Eq.trans (b:=fn2 Dv (Di .i64) (z35 (world n d) n) [t0,.int .i64 t1] h) (by kernel_rfl) (z87 Dv (Di .i64) _ t0 t1 h)
theorem z16f(n d:Nat)(t0:AV)(t1:Int)(h:AHeap):world n (d+1) 81 [t0,.int .i64 t1] h=z36 (world n d) n t0 t1 h:=
 Eq.trans (b:=fn2 Dv (Di .i64) (z36 (world n d) n) [t0,.int .i64 t1] h) (by kernel_rfl) (z87 Dv (Di .i64) _ t0 t1 h)
theorem z37e(n d:Nat)(t0:Bytes)(h:AHeap):world n (d+1) 37 [z5 t0] h=gcR h (z148 (world n d) n t0 h):=
 Eq.trans (b:=gcR h (fn1 Ds (z148 (world n d) n) [z5 t0] h)) (by kernel_rfl) (congrArg (gcR h) (z54 Ds _ t0 h))
theorem z332(n d:Nat)(t0:Bytes)(h:AHeap):world n (d+1) 65 [z5 t0] h=gcR h (z118 (world n d) n t0 h):=
 Eq.trans (b:=gcR h (fn1 Ds (z118 (world n d) n) [z5 t0] h)) (by kernel_rfl) (congrArg (gcR h) (z54 Ds _ t0 h))
theorem z278(n d:Nat)(t0:List AV)(h:AHeap):world n (d+1) 41 [.agg t0] h=gcR h (za8 (world n d) n t0 h):=
 Eq.trans (b:=gcR h (fn1 Da (za8 (world n d) n) [.agg t0] h)) (by kernel_rfl) (congrArg (gcR h) (z54 Da _ t0 h))
theorem z331(n d:Nat)(t0:List AV)(h:AHeap):world n (d+1) 40 [.agg t0] h=gcR h (z117 (world n d) n t0 h):=
 Eq.trans (b:=gcR h (fn1 Da (z117 (world n d) n) [.agg t0] h)) (by kernel_rfl) (congrArg (gcR h) (z54 Da _ t0 h))
theorem z2e3(n d:Nat)(t0:List AV)(t1:Bytes)(h:AHeap):world n (d+1) 43 [.agg t0,z5 t1] h=gcR h (zf0 (world n d) n t0 t1 h):=
 Eq.trans (b:=gcR h (fn2 Da Ds (zf0 (world n d) n) [.agg t0,z5 t1] h)) (by kernel_rfl) (congrArg (gcR h) (z87 Da Ds _ t0 t1 h))
theorem z37d(n d:Nat)(t0:AV)(h:AHeap):world n (d+1) 38 [t0] h=z147 (world n d) n t0 h:=
 Eq.trans (b:=fn1 Dv (z147 (world n d) n) [t0] h) (by kernel_rfl) (z54 Dv _ t0 h)
theorem z292(n d:Nat)(h:AHeap):world n (d+1) 11 [] h=gcR h (zc6 (world n d) n h):=
 Eq.trans (b:=gcR h (fn0 (zc6 (world n d) n) [] h)) (by kernel_rfl) (congrArg (gcR h) (z446 _ h))
theorem z279(n d:Nat)(t0:AV)(t1:List AV)(h:AHeap):world n (d+1) 12 [t0,.agg t1] h=za9 (world n d) n t0 t1 h:=
 Eq.trans (b:=fn2 Dv Da (za9 (world n d) n) [t0,.agg t1] h) (by kernel_rfl) (z87 Dv Da _ t0 t1 h)
theorem z3e9(n d:Nat)(h:AHeap):world n (d+1) 20 [] h=gcR h (z15d (world n d) n h):=
 Eq.trans (b:=gcR h (fn0 (z15d (world n d) n) [] h)) (by kernel_rfl) (congrArg (gcR h) (z446 _ h))
theorem z1ed(n d:Nat)(t0:AV)(t1:Int)(t2:List AV)(h:AHeap):world n (d+1) 27 [t0,.int .i64 t1,.agg t2] h=z69 (world n d) n t0 t1 t2 h:=
 Eq.trans (b:=fn3 Dv (Di .i64) Da (z69 (world n d) n) [t0,.int .i64 t1,.agg t2] h) (by kernel_rfl) (z1bb Dv (Di .i64) Da _ t0 t1 t2 h)
theorem z23c(n d:Nat)(t0:AV)(t1:Int)(h:AHeap):world n (d+1) 46 [t0,.int .i64 t1] h=z93 (world n d) n t0 t1 h:=
 Eq.trans (b:=fn2 Dv (Di .i64) (z93 (world n d) n) [t0,.int .i64 t1] h) (by kernel_rfl) (z87 Dv (Di .i64) _ t0 t1 h)
theorem z20a(n d:Nat)(t0:AV)(t1:AV)(t2:Int)(h:AHeap):world n (d+1) 24 [t0,t1,.int .i64 t2] h=z77 (world n d) n t0 t1 t2 h:=
 Eq.trans (b:=fn3 Dv Dv (Di .i64) (z77 (world n d) n) [t0,t1,.int .i64 t2] h) (by kernel_rfl) (z1bb Dv Dv (Di .i64) _ t0 t1 t2 h)
theorem z27a(n d:Nat)(t0:AV)(t1:Int)(h:AHeap):world n (d+1) 44 [t0,.int .i64 t1] h=zaa (world n d) n t0 t1 h:=
 Eq.trans (b:=fn2 Dv (Di .i64) (zaa (world n d) n) [t0,.int .i64 t1] h) (by kernel_rfl) (z87 Dv (Di .i64) _ t0 t1 h)
theorem z23b(n d:Nat)(t0:AV)(t1:Int)(t2:Int)(h:AHeap):world n (d+1) 52 [t0,.int .i64 t1,.int .i64 t2] h=z92 (world n d) n t0 t1 t2 h:=
 Eq.trans (b:=fn3 Dv (Di .i64) (Di .i64) (z92 (world n d) n) [t0,.int .i64 t1,.int .i64 t2] h) (by kernel_rfl) (z1bb Dv (Di .i64) (Di .i64) _ t0 t1 t2 h)
theorem z383(n d:Nat)(t0:List AV)(h:AHeap):world n (d+1) 67 [.agg t0] h=gcR h (z11c (world n d) n t0 h):=
 Eq.trans (b:=gcR h (fn1 Da (z11c (world n d) n) [.agg t0] h)) (by kernel_rfl) (congrArg (gcR h) (z54 Da _ t0 h))
theorem z384(n d:Nat)(t0:List AV)(t1:List AV)(h:AHeap):world n (d+1) 48 [.agg t0,.agg t1] h=gcR h (z11d (world n d) n t0 t1 h):=
 Eq.trans (b:=gcR h (fn2 Da Da (z11d (world n d) n) [.agg t0,.agg t1] h)) (by kernel_rfl) (congrArg (gcR h) (z87 Da Da _ t0 t1 h))
theorem z386(n d:Nat)(t0:Bytes)(h:AHeap):world n (d+1) 70 [z5 t0] h=z14d (world n d) n t0 h:=
 Eq.trans (b:=fn1 Ds (z14d (world n d) n) [z5 t0] h) (by kernel_rfl) (z54 Ds _ t0 h)
theorem z385(n d:Nat)(t0:Bytes)(h:AHeap):world n (d+1) 85 [z5 t0] h=gcR h (z14c (world n d) n t0 h):=
 Eq.trans (b:=gcR h (fn1 Ds (z14c (world n d) n) [z5 t0] h)) (by kernel_rfl) (congrArg (gcR h) (z54 Ds _ t0 h))
theorem z3ea(n d:Nat)(t0:Bytes)(h:AHeap):world n (d+1) 68 [z5 t0] h=gcR h (z17c (world n d) n t0 h):=
 Eq.trans (b:=gcR h (fn1 Ds (z17c (world n d) n) [z5 t0] h)) (by kernel_rfl) (congrArg (gcR h) (z54 Ds _ t0 h))
theorem z2e5(n d:Nat)(t0:Int)(t1:Int)(h:AHeap):world n (d+1) 69 [.int .u64 t0,.int .i64 t1] h=gcR h (zf2 (world n d) n t0 t1 h):=
 Eq.trans (b:=gcR h (fn2 (Di .u64) (Di .i64) (zf2 (world n d) n) [.int .u64 t0,.int .i64 t1] h)) (by kernel_rfl) (congrArg (gcR h) (z87 (Di .u64) (Di .i64) _ t0 t1 h))
theorem z468(n d:Nat)(t0:Bytes)(h:AHeap):world n (d+1) 84 [z5 t0] h=gcR h (z1c5 (world n d) n t0 h):=
 Eq.trans (b:=gcR h (fn1 Ds (z1c5 (world n d) n) [z5 t0] h)) (by kernel_rfl) (congrArg (gcR h) (z54 Ds _ t0 h))
theorem z388(n d:Nat)(t0:Int)(t1:Bytes)(h:AHeap):world n (d+1) 91 [.int .u32 t0,z5 t1] h=gcR h (z14f (world n d) n t0 t1 h):=
 Eq.trans (b:=gcR h (fn2 (Di .u32) Ds (z14f (world n d) n) [.int .u32 t0,z5 t1] h)) (by kernel_rfl) (congrArg (gcR h) (z87 (Di .u32) Ds _ t0 t1 h))
theorem z387(n d:Nat)(t0:Int)(t1:Int)(h:AHeap):world n (d+1) 97 [.int .u32 t0,.int .u32 t1] h=gcR h (z14e (world n d) n t0 t1 h):=
 Eq.trans (b:=gcR h (fn2 (Di .u32) (Di .u32) (z14e (world n d) n) [.int .u32 t0,.int .u32 t1] h)) (by kernel_rfl) (congrArg (gcR h) (z87 (Di .u32) (Di .u32) _ t0 t1 h))
theorem z382(n d:Nat)(t0:List AV)(t1:Bytes)(h:AHeap):world n (d+1) 45 [.agg t0,z5 t1] h=gcR h (z14b (world n d) n t0 t1 h):=
 Eq.trans (b:=gcR h (fn2 Da Ds (z14b (world n d) n) [.agg t0,z5 t1] h)) (by kernel_rfl) (congrArg (gcR h) (z87 Da Ds _ t0 t1 h))
theorem z2e4(n d:Nat)(t0:Bytes)(h:AHeap):world n (d+1) 71 [z5 t0] h=gcR h (zf1 (world n d) n t0 h):=
 Eq.trans (b:=gcR h (fn1 Ds (zf1 (world n d) n) [z5 t0] h)) (by kernel_rfl) (congrArg (gcR h) (z54 Ds _ t0 h))
theorem z380(n d:Nat)(t0:Bytes)(h:AHeap):world n (d+1) 47 [z5 t0] h=gcR h (z11b (world n d) n t0 h):=
 Eq.trans (b:=gcR h (fn1 Ds (z11b (world n d) n) [z5 t0] h)) (by kernel_rfl) (congrArg (gcR h) (z54 Ds _ t0 h))
theorem z381(n d:Nat)(t0:AV)(h:AHeap):world n (d+1) 22 [t0] h=z14a (world n d) n t0 h:=
 Eq.trans (b:=fn1 Dv (z14a (world n d) n) [t0] h) (by kernel_rfl) (z54 Dv _ t0 h)
theorem z37f(n d:Nat)(t0:AV)(t1:List AV)(t2:Bytes)(h:AHeap):world n (d+1) 21 [t0,.agg t1,z5 t2] h=z149 (world n d) n t0 t1 t2 h:=
 Eq.trans (b:=fn3 Dv Da Ds (z149 (world n d) n) [t0,.agg t1,z5 t2] h) (by kernel_rfl) (z1bb Dv Da Ds _ t0 t1 t2 h)
theorem z333(n d:Nat)(t0:AV)(h:AHeap):world n (d+1) 19 [t0] h=z121 (world n d) n t0 h:=
 Eq.trans (b:=fn1 Dv (z121 (world n d) n) [t0] h) (by kernel_rfl) (z54 Dv _ t0 h)
abbrev TBy:Nat:=46
abbrev TChg:Nat:=124
abbrev z263:Nat:=101
abbrev z2dc:Nat:=106
structure Cont where
 th:Bool
 u:Bytes
structure Chg where
 k:Nat
 s:Bytes
 n:Int
noncomputable def z37a(c:Chg):List AV:=[.int .i64 (c.k:Int),z5 c.s,.int .i64 c.n]
def do1(x:Cont)(c:Chg):Cont:=if c.k=0 then ⟨true,x.u++c.s⟩ else if c.k=1 then ⟨x.th,x.u.take c.n.toNat⟩ else ⟨false,[]⟩
def doL(x:Cont)(l:List Chg):Cont:=l.foldl do1 x
def z3bb(x:Cont)(c:Chg):Prop:=c.k=0∨(c.k=1∧0≤c.n∧c.n≤(x.u.length:Int))∨c.k=2
def z2fb:Cont→List Chg→Prop
 |_,[]=>True
 |x,c::l=>z3bb x c∧z2fb (do1 x c) l
def z29a:List Chg→Nat
 |[]=>0
 |c::l=>c.s.length+z29a l
theorem z414(x:Cont)(c:Chg):(do1 x c).u.length≤x.u.length+c.s.length:=by
 unfold do1
 split
 ·rw [List.length_append]
  exact Nat.le_refl _
 ·split
  ·rw [List.length_take]
   omega
  ·exact Nat.zero_le _
theorem z13b:∀(l:List Chg) (x:Cont),(doL x l).u.length≤x.u.length+z29a l
 |[],_=>Nat.le_refl _
 |c::l,x=>by
  have h1:=z414 x c;have h2:=z13b l (do1 x c);show (doL (do1 x c) l).u.length≤x.u.length+(c.s.length+z29a l);omega
theorem z458(x:Cont)(l:List Chg)(c:Chg):doL x (l++[c])=do1 (doL x l) c:=by
 unfold doL;rw[List.foldl_append];rfl
theorem z32e:∀(l:List Chg) (x:Cont) (c:Chg),z2fb x l→z3bb (doL x l) c→z2fb x (l++[c])
 |[],_,_,_,h=>⟨h,trivial⟩
 |a::l,x,c,h1,h2=>⟨h1.1,z32e l (do1 x a) c h1.2 h2⟩
theorem z390:∀(l:List Chg) (c:Chg),z29a (l++[c])=z29a l+c.s.length
 |[],c=>by
  show c.s.length+0=0+c.s.length;omega
 |a::l,c=>by
  have:=z390 l c;show a.s.length+z29a (l++[c])=a.s.length+z29a l+c.s.length;omega
theorem y7{α:Type}{a:α}{K:α→R}{Q:ARes→AHeap→Prop}(hk:∀x,x=a→Wp (K x) Q):Wp (Abs.lett a K) Q:=hk a rfl
def z60:AV→List Nat
 | .sl c _ _ _=>[c]
 |_=>[]
theorem z33e{P:Program}{h:AHeap}{t e:TypeId}{b m sz k:Nat}{k1:IntKind}(he:Abs.elemOf P t=some e)(hi:(P.info? e).isSome=true)(hsz:P.cellsOf e=sz)(h1:k≤m):
  z90 P h t (.sl b 0 m sz) none (some (.int k1 (k:Int)))=some (.val (.sl b 0 k sz),h):=by
 have b1:z88 (some (AV.int k1 (k:Int))) m=some k:=rfl;have b2:z88 none 0=some 0:=rfl;simp only[z90,z18f,b1,b2,he];rw[if_pos ⟨Nat.ble_eq_true_of_le (Nat.zero_le k),Nat.ble_eq_true_of_le h1,hsz.symm,hi⟩,if_neg (fun hc=>by have:=Nat.le_of_ble_eq_true hc.2;omega),Nat.zero_mul,Nat.add_zero,Nat.sub_zero]
theorem fitBy:z482 Try.prog 5 1=true:=by kernel_rfl
def BufAt(h:AHeap)(v:AV)(u:Bytes):Prop:=(v=.nsl∧u=[])∨∃c rest,v=.sl c 0 u.length 1∧RowH h c 5 (z32 u++rest)∧c<h.next
section
variable {h h':AHeap}{v:AV}{u:Bytes}
theorem BufAt.tch{S:List Nat}(k:BufAt h v u)(t:Tch S h h')(hd:∀b∈z60 v,b ∉ S):BufAt h' v u:=by
 rcases k with k|⟨c,rest,rfl,h2,h3⟩
 ·exact .inl k
 ·exact .inr ⟨c,rest,rfl,h2.tch t h3 (hd c (List.mem_singleton.2 rfl)),Nat.lt_of_lt_of_le h3 t.1⟩
theorem BufAt.lt(k:BufAt h v u):∀b∈z60 v,b<h.next:=by
 rcases k with⟨rfl,_⟩|⟨c,rest,rfl,_,h3⟩
 ·exact fun b hb=>nomatch hb
 ·intro b hb
  rw[List.mem_singleton.1 hb];exact h3
theorem BufAt.len(k:BufAt h v u):z12d v=some (u.length:Int):=by
 rcases k with⟨rfl,rfl⟩|⟨c,rest,rfl,_⟩<;>rfl
theorem BufAt.one(k:BufAt h v u):v.one=true∧AV.cells v=[v]:=by
 rcases k with⟨rfl,rfl⟩|⟨c,rest,rfl,_⟩<;>exact⟨rfl,rfl⟩
theorem BufAt.app(k:BufAt h v u)(s:Bytes)(hx:h.ex=[89])(hm:u.length+s.length≤1000000000):
  ∃v' h',z34 Try.prog h TBy 9 v (z5 s)=some (.val v',h')∧BufAt h' v' (u++s)∧Tch (z60 v) h h'∧∀b∈z60 v',b∈z60 v∨h.next≤b:=by
 have he:Abs.elemOf Try.prog TBy=some 5:=by kernel_rfl
 have hu:z106 Try.prog 9=true:=by kernel_rfl
 have hsz:Try.prog.cellsOf 5=1:=by kernel_rfl
 have hex:zbf 5 h.ex=false:=by rw[hx];rfl
 by_cases h0:s=[]
 ·subst h0
  have hfit2:=z31 (P:=Try.prog) (e:=5) (B:=1) (k:=u.length+0) fitBy (by omega) (by omega);rw[List.append_nil];refine⟨v,h,?_,k,Tch.refl _ _,fun b hb=>.inl hb⟩
  rcases k with⟨rfl,rfl⟩|⟨c,rest,rfl,_⟩
  ·have hl : z205 .nsl = some 0 := rfl
   have hx0:z205 (z5 [])=some 0:=rfl;have hf:z10d h 1 0 (z5 [])=some []:=zf7 [];unfold z106 at hu;unfold z34
   split at hu
   ·cases hu
   ·rename_i ud hni heq
    have hfit3:zc9 Try.prog 5 (0+0)=true:=hfit2;simp only[he,hl,hx0,heq,hsz,hf,hfit3,hex,List.all_nil,and_self,if_true];rfl
   ·cases hu
  ·exact z2d8 he hu hsz rfl rfl (zf7 []) hfit2 hex
 ·obtain ⟨m, hm2⟩ : ∃ m, s.length = m + 1 := by
   cases s with
   |nil=>exact absurd rfl h0
   |cons a l=>exact⟨l.length,rfl⟩
  have hf:z10d h 1 (m+1) (z5 s)=some (z32 s):=by
   rw[←hm2];exact zf7 s
  have hl:z205 (z5 s)=some (m+1):=by
   rw[←hm2];rfl
  rcases k with⟨rfl,rfl⟩|⟨c,rest,rfl,h2,h3⟩
  ·have a1 := z128 (P := Try.prog) (h := h) (t := TBy) (u := 9) he hu hsz hl hf (z31 fitBy (by omega) (by omega)) (z126 s) hex
   refine⟨_,_,a1,.inr ⟨h.next,[],by rw[List.nil_append,hm2],?_,Nat.lt_succ_self _⟩,Tch.newH _ _ _ _,fun b hb=>.inr (by rw[List.mem_singleton.1 hb];exact Nat.le_refl _)⟩;rw[List.nil_append,List.append_nil];exact RowH.new _ _ _
  ·have hcl := z5b u
   have a1:=zc4 (P:=Try.prog) (h:=h) (t:=TBy) (u:=9) (b:=c) (o:=0) (m:=u.length) (cs:=z32 u) he hu hsz hl hf (z31 fitBy (by omega) (by omega)) (z126 s) hex (by
    have:=h2.part (o:=0) (n:=(z32 u).length) (by rw[List.length_append];omega);rw[List.drop_zero,List.take_left' rfl] at this;rw[Nat.mul_one, ←hcl];exact this) h2.type
   refine⟨_,_,a1,.inr ⟨h.next,[],by rw[List.length_append,hm2],?_,Nat.lt_succ_self _⟩,(Tch.put (S:=[c]) (.inl (List.mem_singleton.2 rfl)) _).trans (Tch.newH _ _ _ _),fun b hb=>.inr (by rw[List.mem_singleton.1 hb];exact Nat.le_refl _)⟩;rw[z10e,List.append_nil];exact RowH.new (h.put c .dead) _ _
theorem BufAt.cut(k:BufAt h v u){n:Int}(h0:0≤n)(h1:n≤(u.length:Int)):∃v',z90 Try.prog h TBy v none (some (.int .i64 n))=some (.val v',h)∧BufAt h v' (u.take n.toNat)∧z60 v'=z60 v:=by
 obtain⟨j,rfl⟩:∃j:Nat,n=(j:Int):=⟨n.toNat,by omega⟩;rw[Int.toNat_natCast];have hj:j≤u.length:=by omega
 rcases k with⟨rfl,rfl⟩|⟨c,rest,rfl,h2,h3⟩
 ·have hj0 : j = 0 := by
   rw[List.length_nil] at hj;omega
  subst hj0;exact⟨.nsl,by kernel_rfl,.inl ⟨rfl,rfl⟩,rfl⟩
 ·have hl : (u.take j).length = j := by rw [List.length_take]; omega
  refine⟨.sl c 0 j 1,z33e (P:=Try.prog) (e:=5) (k1:=.i64) (by kernel_rfl) (by kernel_rfl) (by kernel_rfl) hj,.inr ⟨c,z32 (u.drop j)++rest,by rw[hl],?_,h3⟩,rfl⟩;rw[←List.append_assoc, ←z10e,List.take_append_drop];exact h2
end
def RdL(h:AHeap)(S:List Nat)(lv:AV)(l:List Chg):Prop:=z12d lv=some (l.length:Int)∧∀H,Tch S h H→∀(i:Nat) (hi:i<l.length),∃p,z150 3 lv (i:Int)=some p∧z2c H 3 p=some (z37a l[i])
theorem z411{α:Type}{l:List α}{i:Nat}{a:α}{r:List α}(h:l.drop i=a::r):∃hi:i<l.length,l[i]=a∧l.drop (i+1)=r:=by
 have hi:i<l.length:=by
  apply Nat.lt_of_not_le;intro hh;rw[List.drop_of_length_le hh] at h;cases h
 rw[List.drop_eq_getElem_cons hi] at h
 injection h with h1 h2
 exact⟨hi,h1,h2⟩
theorem z410{α:Type}{l:List α}{i:Nat}(h:l.drop i=[]):l.length≤i:=by
 apply Nat.le_of_not_lt;intro hh;rw[List.drop_eq_getElem_cons hh] at h;cases h
theorem set4{D:List AV}{o:Nat}{a b c d:AV}:(((D.set o a).set (o+1) b).set o c).set (o+1) d=(D.set o c).set (o+1) d:=by
 rw[List.set_comm b c (show o+1≠o by omega),List.set_set,List.set_set]
theorem set3{D:List AV}{o:Nat}{a b d:AV}:((D.set o a).set (o+1) b).set (o+1) d=(D.set o a).set (o+1) d:=List.set_set ..
theorem laid2{l:List AV}{o:Nat}{a b:AV}(h:o+1<l.length):z379 l o [a,b]=(l.set o a).set (o+1) b:=by
 refine List.ext_getElem? fun i=>?_;rw[z19b (by show o+2≤_;omega)]
 by_cases h1:i=o
 ·subst h1
  rw[if_pos ⟨Nat.le_refl _,by show i<i+2;omega⟩,Nat.sub_self,List.getElem?_set_ne (by omega),List.getElem?_set_self (by omega)];rfl
 ·by_cases h2 : i = o + 1
  ·subst h2
   rw[if_pos ⟨by omega,by show o+1<o+2;omega⟩,show o+1 - o=1 by omega,List.getElem?_set_self (by rw[List.length_set];omega)];rfl
  ·rw[if_neg (fun hh=>by have:i<o+2:=hh.2;omega),List.getElem?_set_ne (by omega),List.getElem?_set_ne (by omega)]
structure DoAt (h H:AHeap) (db T o:Nat) (D:List AV) (v v':AV) (x:Cont):Prop where
 row:RowH H db T ((D.set o (.bool x.th)).set (o+1) v')
 buf:BufAt H v' x.u
 ndb:db ∉ z60 v'
 sub:∀b∈z60 v',b∈z60 v∨h.next≤b
 tch:Tch (db::z60 v) h H
 ex:H.ex=[89]
section
variable {n d db T o:Nat}{h:AHeap}{D:List AV}{v lv:AV}{l:List Chg}{Q:ARes→AHeap→Prop}{k4:AHeap→R}
theorem do_loop(hdb:db<h.next)(ho:o+1<D.length)(rd:RdL h (db::z60 v) lv l)(hl:l.length<1000000):
  ∀(todo:List Chg) (i fu:Nat) (x:Cont) (v':AV) (H:AHeap),l.drop i=todo→todo.length<fu→DoAt h H db T o D v v' x→z2fb x todo→x.u.length+z29a todo≤100000000→
   (∀H' v'',DoAt h H' db T o D v v'' (doL x todo)→Wp (k4 H') Q)→Wp (z7f (.ptr db o) lv (l.length:Int) k4 fu (i:Int) H) Q
 |_,_,0,_,_,_,_,hf,_,_,_,_=>by omega
 |[],i,fu+1,x,v',H,hd,hf,K,_,_,hk=>by
  have:=z410 hd;rw[zce];unfold z70
  (first|(with_reducible first|refine y28 (fun _ _=>?_)|refine y27 (fun _ _=>?_)|refine Wp.join2 (fun _ _=>?_))|((with_reducible first|refine yd ?_ ?_ ?_|refine y13 ?_ ?_ ?_|refine Wp.lettu8 ?_ ?_ ?_|refine y19 ?_ ?_ ?_);omega;omega)|(with_reducible refine Wp.lett ?_)|((with_reducible apply Wp.obind);first|(with_reducible first|exact z7 _ _|exact z11 _|exact ze _|exact zf _ _|exact z8 _ _ _|exact z40 _|exact zf9 _ _|exact zf8 _ _ _|exact z165 _ _ _ _|assumption)|((with_reducible first|apply RowH.cell'|apply RowH.ldAll);(with_reducible assumption);rfl))|((with_reducible refine y9 ?_ ?_);first|(with_reducible first|rfl|assumption|exact Bool.not_false)|((with_reducible first|apply decide_eq_true|apply not_df|apply z1af|apply z127);omega))|((with_reducible refine y8 ?_ ?_);first|(with_reducible first|rfl|assumption|exact Bool.not_true)|((with_reducible first|apply decide_eq_false|apply not_dt|apply z185|apply zca);omega))|((with_reducible first|apply Wp.callN|apply Wp.callK);(with_reducible assumption))|((with_reducible apply Wp.outK);(with_reducible assumption))|(with_reducible first|refine y38 (by assumption) ?_|refine y37 (by assumption) ?_|refine Wp.go2 (by assumption) ?_)|rw[z23])
  exact y8 (by rw[decide_eq_false_iff_not];omega) (hk H v' K)
 |c::todo,i,fu+1,x,v',H,hd,hf,K,hL,hb,hk=>by
  obtain⟨hi,hci,hd2⟩:=z411 hd;rw[List.length_cons] at hf;obtain⟨p,i1,r1⟩:=rd.2 H K.tch i hi;rw[hci] at r1;have el:(i:Int)+1=((i+1:Nat):Int):=by omega
  have hs:z29a (c::todo)=c.s.length+z29a todo:=rfl;have hlen:o+1<((D.set o (.bool x.th)).set (o+1) v').length:=by rw[List.length_set,List.length_set];exact ho
  have hn0:=K.tch.1;rw[zce];unfold z70
  (first|(with_reducible first|refine y28 (fun _ _=>?_)|refine y27 (fun _ _=>?_)|refine Wp.join2 (fun _ _=>?_))|((with_reducible first|refine yd ?_ ?_ ?_|refine y13 ?_ ?_ ?_|refine Wp.lettu8 ?_ ?_ ?_|refine y19 ?_ ?_ ?_);omega;omega)|(with_reducible refine Wp.lett ?_)|((with_reducible apply Wp.obind);first|(with_reducible first|exact z7 _ _|exact z11 _|exact ze _|exact zf _ _|exact z8 _ _ _|exact z40 _|exact zf9 _ _|exact zf8 _ _ _|exact z165 _ _ _ _|assumption)|((with_reducible first|apply RowH.cell'|apply RowH.ldAll);(with_reducible assumption);rfl))|((with_reducible refine y9 ?_ ?_);first|(with_reducible first|rfl|assumption|exact Bool.not_false)|((with_reducible first|apply decide_eq_true|apply not_df|apply z1af|apply z127);omega))|((with_reducible refine y8 ?_ ?_);first|(with_reducible first|rfl|assumption|exact Bool.not_true)|((with_reducible first|apply decide_eq_false|apply not_dt|apply z185|apply zca);omega))|((with_reducible first|apply Wp.callN|apply Wp.callK);(with_reducible assumption))|((with_reducible apply Wp.outK);(with_reducible assumption))|(with_reducible first|refine y38 (by assumption) ?_|refine y37 (by assumption) ?_|refine Wp.go2 (by assumption) ?_)|rw[z23])
  refine y9 (by rw[decide_eq_true_eq];omega) (Wp.obind i1 (Wp.obind r1 (y12 (Mem.nil [] H) fun h2 M2=>?_)));rw[z23];refine y18 M2 rfl rfl rfl fun h3 M3=>?_;have t3:=M3.tch;have hn3:=t3.1;have hx3:h3.ex=[89]:=by rw[M3.ex,K.ex]
  have kr:=K.row.tch t3 (Nat.lt_of_lt_of_le hdb K.tch.1) (by simp);have kb:=K.buf.tch t3 (fun _ _=>by simp);have hne:H.next≠db:=by omega
  refine Wp.obind (RowH.cell' M3.at0.1 (show (z37a c)[0]? =some (.int .i64 (c.k:Int)) from rfl)) (Wp.obind (z7 _ _) (Wp.lett (y7 fun k26 ek=>?_)))
  have next:∀(H':AHeap) (v'':AV),DoAt h H' db T o D v v'' (do1 x c)→Wp (k26 H') Q:=by
   intro H' v'' K';rw[ek]
   (first|(with_reducible first|refine y28 (fun _ _=>?_)|refine y27 (fun _ _=>?_)|refine Wp.join2 (fun _ _=>?_))|((with_reducible first|refine yd ?_ ?_ ?_|refine y13 ?_ ?_ ?_|refine Wp.lettu8 ?_ ?_ ?_|refine y19 ?_ ?_ ?_);omega;omega)|(with_reducible refine Wp.lett ?_)|((with_reducible apply Wp.obind);first|(with_reducible first|exact z7 _ _|exact z11 _|exact ze _|exact zf _ _|exact z8 _ _ _|exact z40 _|exact zf9 _ _|exact zf8 _ _ _|exact z165 _ _ _ _|assumption)|((with_reducible first|apply RowH.cell'|apply RowH.ldAll);(with_reducible assumption);rfl))|((with_reducible refine y9 ?_ ?_);first|(with_reducible first|rfl|assumption|exact Bool.not_false)|((with_reducible first|apply decide_eq_true|apply not_df|apply z1af|apply z127);omega))|((with_reducible refine y8 ?_ ?_);first|(with_reducible first|rfl|assumption|exact Bool.not_true)|((with_reducible first|apply decide_eq_false|apply not_dt|apply z185|apply zca);omega))|((with_reducible first|apply Wp.callN|apply Wp.callK);(with_reducible assumption))|((with_reducible apply Wp.outK);(with_reducible assumption))|(with_reducible first|refine y38 (by assumption) ?_|refine y37 (by assumption) ?_|refine Wp.go2 (by assumption) ?_)|rw[z23])
   rw[el];have:=z414 x c;exact do_loop hdb ho rd hl todo (i+1) fu (do1 x c) v'' H' hd2 (by omega) K' hL.2 (by omega) hk
  have g1:((D.set o (.bool x.th)).set (o+1) v')[o+1]? =some v':=List.getElem?_set_self (by rw[List.length_set];exact ho)
  rcases hL.1 with h0|⟨h1,hc0,hc1⟩|h2
  ·refine y9 (z127 (by omega)) ?_
   have ed:do1 x c=⟨true,x.u++c.s⟩:=by unfold do1;rw[if_pos h0]
   rw[ed] at next;refine Wp.obind (zf _ _) (Wp.obind (z8 _ _ _) (Wp.st1 kr (show o+0<_ by omega) rfl fun h4 k4' t4 n4=>?_));have kb4:=kb.tch t4 (fun b hb hm=>K.ndb (List.mem_singleton.1 hm▸hb));have kl4:=M3.at0.1.tch t4 M3.at0.2.1 (by simpa using hne);have g4:(((D.set o (.bool x.th)).set (o+1) v').set (o+0) (.bool true))[o+1]? =some v':=by rw[List.getElem?_set_ne (by omega)];exact g1
   obtain⟨v'',h5,e5,kb5,t5,s5⟩:=kb4.app c.s (by rw[t4.2.1,hx3]) (by omega);refine Wp.obind (zf _ _) (Wp.obind (z8 _ _ _) (Wp.obind (RowH.cell' k4' g4) (Wp.obind (RowH.cell' kl4 (show (z37a c)[1]? =some (z5 c.s) from rfl)) (Wp.obind (ze _) (Wp.outK e5 (Wp.obind (zf _ _) (Wp.obind (z8 _ _ _) ?_)))))));rw[kb5.one.2];have hdb4:db<h4.next:=by omega
   have kr5:=k4'.tch t5 hdb4 K.ndb;have n5:=t5.1;refine Wp.st1 kr5 (show o+1<_ by rw[List.length_set];exact hlen) kb5.one.1 fun h6 k6 t6 n6=>?_
   have hnd:db ∉ z60 v'':=fun hb=>by
    rcases s5 _ hb with hb|hb
    ·exact K.ndb hb
    ·omega
   have ts:∀b∈z60 v',b∈db::z60 v∨h.next≤b:=fun b hb=>(K.sub b hb).imp (List.mem_cons_of_mem _) id;have td:∀b∈[db],b∈db::z60 v∨h.next≤b:=fun b hb=>.inl (by rw[List.mem_singleton.1 hb];exact List.mem_cons_self);refine next h6 v'' ⟨?_,kb5.tch t6 (fun b hb hm=>hnd (List.mem_singleton.1 hm▸hb)),hnd,fun b hb=>?_,(((K.tch.trans' t3 fun b hb=>nomatch hb).trans' t4 td).trans' t5 ts).trans' t6 td,by rw[t6.2.1,t5.2.1,t4.2.1,hx3]⟩
   ·have k6' : RowH h6 db T ((((D.set o (.bool x.th)).set (o + 1) v').set o (.bool true)).set (o + 1) v'') := k6
    rw[set4] at k6';exact k6'
   ·rcases s5 b hb with hb | hb
    ·exact K.sub b hb
    ·omega
  ·refine y8 (zca (by omega)) ?_
   have ed:do1 x c=⟨x.th,x.u.take c.n.toNat⟩:=by unfold do1;rw[if_neg (by omega),if_pos h1]
   rw[ed] at next;obtain⟨v'',e5,kb5,hb5⟩:=kb.cut hc0 hc1;refine Wp.lett (y7 fun k47 ek47=>y9 (z127 (by omega)) (Wp.obind (zf _ _) (Wp.obind (z8 _ _ _) (Wp.obind (RowH.cell' kr g1) (Wp.obind (RowH.cell' M3.at0.1 (show (z37a c)[2]? =some (.int .i64 c.n) from rfl)) (Wp.obind (z7 _ _) (Wp.outK e5 (Wp.obind (zf _ _) (Wp.obind (z8 _ _ _) ?_)))))))));rw[kb5.one.2];refine Wp.st1 kr (show o+1<_ by exact hlen) kb5.one.1 fun h6 k6 t6 n6=>?_;rw[ek47];have hnd:db ∉ z60 v'':=by rw[hb5];exact K.ndb
   have td:∀b∈[db],b∈db::z60 v∨h.next≤b:=fun b hb=>.inl (by rw[List.mem_singleton.1 hb];exact List.mem_cons_self);refine next h6 v'' ⟨?_,kb5.tch t6 (fun b hb hm=>hnd (List.mem_singleton.1 hm▸hb)),hnd,(by rw[hb5];exact K.sub),(K.tch.trans' t3 fun b hb=>nomatch hb).trans' t6 td,by rw[t6.2.1,hx3]⟩;have k6':=k6;rw[set3] at k6';exact k6'
  ·refine y8 (zca (by omega)) ?_
   have ed:do1 x c=⟨false,[]⟩:=by unfold do1;rw[if_neg (by omega),if_neg (by omega)]
   rw[ed] at next;refine Wp.lett (y7 fun k47 ek47=>y8 (zca (by omega)) (Wp.lett (y7 fun k62 ek62=>y9 (z127 (by omega)) (Wp.obind (zf _ _) (y3c kr (rfl:([.bool false,.nsl]:List AV).length=2) (show o+2≤_ by exact hlen) rfl fun h6 k6 t6 n6=>?_)))));rw[ek62,ek47];have td:∀b∈[db],b∈db::z60 v∨h.next≤b:=fun b hb=>.inl (by rw[List.mem_singleton.1 hb];exact List.mem_cons_self);refine next h6 .nsl ⟨?_,.inl ⟨rfl,rfl⟩,(fun h=>nomatch h),(fun _ h=>nomatch h),(K.tch.trans' t3 fun b hb=>nomatch hb).trans' t6 td,by rw[t6.2.1,hx3]⟩;have k6':=k6;rw[laid2 hlen,set4] at k6';exact k6'
theorem do_ok{x:Cont}(hn:1000000<n)(hdb:db<h.next)(kr:RowH h db T D)(h0:D[o]? =some (.bool x.th))(h1:D[o+1]? =some v)(kb:BufAt h v x.u)(hnd:db ∉ z60 v)(hx:h.ex=[89])(rd:RdL h (db::z60 v) lv l)(hl:l.length<1000000)(hL:z2fb x l)(hb:x.u.length+z29a l≤100000000):
  ∃h' v',world n (d+1) 72 [.ptr db o,lv] h=some (.ret (.tup []),h')∧DoAt h h' db T o D v v' (doL x l):=by
 suffices hK:Wp (world n (d+1) 72 [.ptr db o,lv] h) fun r h'=>r=.ret (.tup [])∧∃v',DoAt h h' db T o D v v' (doL x l) by
  obtain⟨_,h',e,rfl,v',k⟩:=hK;exact⟨h',v',e,k⟩
 rw[z23e];unfold z99;refine Wp.obind rd.1 (y7 fun k4 ek=>?_);have ho:o+1<D.length:=(List.getElem?_eq_some_iff.1 h1).1
 have e0:(D.set o (.bool x.th)).set (o+1) v=D:=by
  obtain⟨_,e1⟩:=List.getElem?_eq_some_iff.1 h0;obtain⟨_,e2⟩:=List.getElem?_eq_some_iff.1 h1;rw[←e1,List.set_getElem_self, ←e2,List.set_getElem_self]
 refine do_loop hdb ho rd hl l 0 n x v h (List.drop_zero) (by omega) ⟨by rw[e0];exact kr,kb,hnd,fun b hb=>.inl hb,Tch.refl _ _,hx⟩ hL hb fun H' v'' K=>?_;rw[ek];exact Wp.ret ⟨rfl,v'',K⟩
end
noncomputable def z174:List Chg→List AV
 |[]=>[]
 |c::l=>z37a c++z174 l
theorem z233:∀l:List Chg,(z174 l).length=3*l.length
 |[]=>rfl
 |c::l=>by
  have:=z233 l;rw[z174,List.length_append,this,List.length_cons];show 3+_=_;omega
theorem z2d2:∀a b:List Chg,z174 (a++b)=z174 a++z174 b
 |[],_=>rfl
 |c::a,b=>by rw[List.cons_append,z174,z2d2 a b,z174,List.append_assoc]
def LooseAt(h:AHeap)(v:AV)(l:List Chg):Prop:=(v=.nsl∧l=[])∨∃c,v=.sl c 0 l.length 3∧RowH h c TChg (z174 l)∧c<h.next
theorem fitChg:z482 Try.prog TChg 32=true:=by kernel_rfl
theorem z371(h:AHeap)(k:Int)(s:Bytes)(n:Int):z1df Try.prog h z263 1 [(0,.agg [.int .i64 k,z5 s,.int .i64 n])]=z83 h TChg [.int .i64 k,z5 s,.int .i64 n] 1 3:=by kernel_rfl
theorem idx3{b m i:Nat}(h:i<m):z150 3 (.sl b 0 m 3) (i:Int)=some (.ptr b (0+i*3)):=by
 have e:Nat.blt i m=true:=by simpa using h
 show (match Nat.blt i m with|true=>some (AV.ptr b (0+i*3))|false=>none)=_;rw[e]
theorem z1cd{h:AHeap}{b e sz:Nat}{r:List AV}(kr:RowH h b e r)(hr:r.length=sz):z10d h sz (0+1) (.sl b 0 1 sz)=some r:=by
 rw[Nat.zero_add,z143 (Nat.le_refl _),Nat.one_mul];have:=kr.part (o:=0) (n:=r.length) (by omega);rw[List.drop_zero,List.take_length,hr] at this;exact this
section
variable {h h':AHeap}{v:AV}{l:List Chg}{b1:Nat}{c:Chg}
theorem LooseAt.tch{S:List Nat}(k:LooseAt h v l)(t:Tch S h h')(hd:∀b∈z60 v,b ∉ S):LooseAt h' v l:=by
 rcases k with k|⟨c,rfl,h2,h3⟩
 ·exact .inl k
 ·exact .inr ⟨c,rfl,h2.tch t h3 (hd c (List.mem_singleton.2 rfl)),Nat.lt_of_lt_of_le h3 t.1⟩
theorem LooseAt.lt(k:LooseAt h v l):∀b∈z60 v,b<h.next:=by
 rcases k with⟨rfl,_⟩|⟨c,rfl,_,h3⟩
 ·exact fun b hb=>nomatch hb
 ·intro b hb
  rw[List.mem_singleton.1 hb];exact h3
theorem LooseAt.one(k:LooseAt h v l):v.one=true∧AV.cells v=[v]:=by
 rcases k with⟨rfl,rfl⟩|⟨c,rfl,_⟩<;>exact⟨rfl,rfl⟩
theorem chgs_ld{c i:Nat}{rest:List AV}(k:RowH h c TChg (z174 l++rest))(hi:i<l.length):z2c h 3 (.ptr c (0+i*3))=some (z37a l[i]):=by
 have e:z174 l=z174 (l.take i)++(z37a l[i]++z174 (l.drop (i+1))):=by
  have:=z2d2 (l.take i) (l.drop i);rw[List.take_append_drop] at this;rw[this,List.drop_eq_getElem_cons hi,z174]
 have hl:(z174 (l.take i)).length=0+i*3:=by rw[z233,List.length_take];omega
 rw[k.ld (by rw[List.length_append,z233];omega),e,List.append_assoc,List.append_assoc,List.drop_left' hl]
 congr 1
theorem LooseAt.rd{S:List Nat}(k:LooseAt h v l)(hS:∀b∈z60 v,b ∉ S):RdL h S v l:=by
 rcases k with⟨rfl,rfl⟩|⟨c,rfl,h2,h3⟩
 ·exact⟨rfl,fun _ _ i hi=>absurd hi (Nat.not_lt_zero _)⟩
 ·refine ⟨rfl, fun H t i hi => ⟨_, idx3 hi, ?_⟩⟩
  have k2:=h2.tch t h3 (hS c (List.mem_singleton.2 rfl));exact chgs_ld (rest:=[]) (by rw[List.append_nil];exact k2) hi
theorem LooseAt.push(k:LooseAt h v l)(kr:RowH h b1 TChg (z37a c))(hm:l.length<20000000)(hx:h.ex=[89]):
  ∃h',z34 Try.prog h z263 z263 v (.sl b1 0 1 3)=some (.val (.sl h.next 0 (l.length+1) 3),h')∧LooseAt h' (.sl h.next 0 (l.length+1) 3) (l++[c])∧Tch (z60 v) h h':=by
 have he:Abs.elemOf Try.prog z263=some TChg:=by kernel_rfl
 have hu:z106 Try.prog z263=true:=by kernel_rfl
 have hsz:Try.prog.cellsOf TChg=3:=by kernel_rfl
 have hex:zbf TChg h.ex=false:=by rw[hx];rfl
 have eb:z174 (l++[c])=z174 l++z37a c:=by
  rw[z2d2];show z174 l++(z37a c++[])=_;rw[List.append_nil]
 have el:l.length+1=(l++[c]).length:=by rw[List.length_append,List.length_singleton]
 rcases k with⟨rfl,rfl⟩|⟨b,rfl,h2,h3⟩
 ·have a1 := z128 (P := Try.prog) (h := h) (t := z263) (u := z263) (n := 0) (x := .sl b1 0 1 3) he hu hsz rfl (z1cd kr rfl) (z31 fitChg (by omega) (by omega)) rfl hex
  refine⟨_,a1,.inr ⟨h.next,by rw[el],?_,Nat.lt_succ_self _⟩,Tch.newH _ _ _ _⟩;rw[eb];exact RowH.new _ _ _
 ·have hcl := z233 l
  have a1:=zc4 (P:=Try.prog) (h:=h) (t:=z263) (u:=z263) (b:=b) (o:=0) (m:=l.length) (n:=0) (x:=.sl b1 0 1 3) (cs:=z174 l) he hu hsz rfl (z1cd kr rfl) (z31 fitChg (by omega) (by omega)) rfl hex (by
   have:=h2.part (o:=0) (n:=(z174 l).length) (by omega);rw[List.drop_zero,List.take_length] at this;rw[show l.length*3=(z174 l).length by omega];exact this) h2.type
  refine⟨_,a1,.inr ⟨h.next,by rw[el],?_,Nat.lt_succ_self _⟩,(Tch.put (S:=[b]) (.inl (List.mem_singleton.2 rfl)) _).trans (Tch.newH _ _ _ _)⟩;rw[eb];exact RowH.new (h.put b .dead) _ _
end
structure FileS where
 sure:Cont
 seen:Cont
 loose:List Chg
def upd{α:Type}(f:Nat→α)(i:Nat)(x:α):Nat→α:=fun j=>if j=i then x else f j
def FileOk(x:FileS)(B:Nat):Prop:=x.seen=doL x.sure x.loose∧z2fb x.sure x.loose∧x.sure.u.length+z29a x.loose≤B∧x.loose.length≤B
structure FileC (D:List AV) (f:Nat) (x:FileS) (w:Nat→AV):Prop where
 c0:D[5*f]? =some (.bool x.sure.th)
 c1:D[5*f+1]? =some (w 0)
 c2:D[5*f+2]? =some (.bool x.seen.th)
 c3:D[5*f+3]? =some (w 1)
 c4:D[5*f+4]? =some (w 2)
structure FileM (h:AHeap) (x:FileS) (w:Nat→AV):Prop where
 sure:BufAt h (w 0) x.sure.u
 seen:BufAt h (w 1) x.seen.u
 loose:LooseAt h (w 2) x.loose
structure DiskAt (lo:Nat→Prop) (h:AHeap) (db:Nat) (D:List AV) (fs:Nat→FileS) (vs:Nat→Nat→AV) (p:Int) (ops B:Nat):Prop where
 row:RowH h db z2dc D
 hdb:db<h.next
 hlo:lo db
 len:D.length=162
 cells:∀f,f<32→FileC D f (fs f) (vs f)
 cp:D[160]? =some (.int .i64 p)
 co:D[161]? =some (.int .i64 (ops:Int))
 mem:∀f,f<32→FileM h (fs f) (vs f)
 own:∃g:Nat→Nat,g db=0∧∀f k,f<32→k<3→∀b∈z60 (vs f k),g b=3*f+k+1
 low:∀f k,f<32→k<3→∀b∈z60 (vs f k),lo b
 ok:∀f,f<32→FileOk (fs f) B
 ex:h.ex=[89]
 hp: -1≤p∧p<9223372036854775808
 ho:ops≤B
 nw:∀b,h.next≤b→lo b
theorem FileM.lt{h:AHeap}{x:FileS}{w:Nat→AV}(k:FileM h x w):∀i,i<3→∀b∈z60 (w i),b<h.next:=by
 intro i hi
 rcases i with _|_|_|i
 ·exact k.sure.lt
 ·exact k.seen.lt
 ·exact k.loose.lt
 ·omega
theorem FileM.tch{h h':AHeap}{S:List Nat}{x:FileS}{w:Nat→AV}(k:FileM h x w)(t:Tch S h h')(hS:∀i,i<3→∀b∈z60 (w i),b ∉ S):FileM h' x w:=
 ⟨k.sure.tch t (hS 0 (by decide)),k.seen.tch t (hS 1 (by decide)),k.loose.tch t (hS 2 (by decide))⟩
section
variable {lo:Nat→Prop}{n d db:Nat}{h h':AHeap}{D D':List AV}{fs:Nat→FileS}{vs:Nat→Nat→AV}{p:Int}{ops B B' f:Nat}
theorem DiskAt.lt(K:DiskAt lo h db D fs vs p ops B){f k:Nat}(hf:f<32)(hk:k<3):∀b∈z60 (vs f k),b<h.next:=(K.mem f hf).lt k hk
theorem DiskAt.nd(K:DiskAt lo h db D fs vs p ops B){f k:Nat}(hf:f<32)(hk:k<3):db ∉ z60 (vs f k):=fun hb=>by
 obtain⟨g,g0,g1⟩:=K.own;have:=g1 f k hf hk _ hb;omega
theorem DiskAt.ne(K:DiskAt lo h db D fs vs p ops B){f k f' k':Nat}(hf:f<32)(hk:k<3)(hf':f'<32)(hk':k'<3)(hne:¬(f=f'∧k=k')):∀b∈z60 (vs f k),b ∉ z60 (vs f' k'):=fun b hb hb'=>by
 obtain⟨g,g0,g1⟩:=K.own;have h1:=g1 f k hf hk _ hb;have h2:=g1 f' k' hf' hk' _ hb';omega
theorem DiskAt.upd{S:List Nat}{x:FileS}{w:Nat→AV}(K:DiskAt lo h db D fs vs p ops B)(hf:f<32)(t:Tch S h h')(hS:∀b∈S,b=db∨∃k,k<3∧b∈z60 (vs f k))(row:RowH h' db z2dc D')(hlen:D'.length=162)(hc:FileC D' f x w)(rest:∀i,(i<5*f∨5*f+5≤i)→D'[i]? =D[i]?)(bw:∀k,k<3→∀b∈z60 (w k),b∈z60 (vs f k)∨h.next≤b)(bd:∀k l,k<3→l<3→k≠l→∀b∈z60 (w k),b ∉ z60 (w l))(hm:FileM h' x w)(hok:FileOk x B')(hB:B≤B'):DiskAt lo h' db D' (upd fs f x) (upd vs f w) p ops B':=by
 obtain⟨g,g0,g1⟩:=K.own;have hle:=t.1;have hdn:=K.hdb
 have ot:∀f',f'<32→f'≠f→∀k,k<3→∀b∈z60 (vs f' k),b ∉ S:=fun f' hf' hne k hk b hb hm=>by
  rcases hS b hm with rfl|⟨k',hk',hb'⟩
  ·exact K.nd hf' hk hb
  ·exact K.ne hf' hk hf hk' (fun h=>hne h.1) b hb hb'
 refine⟨row,Nat.lt_of_lt_of_le hdn hle,K.hlo,hlen,fun f' hf'=>?_,?_,?_,fun f' hf'=>?_,⟨fun b=>if b<h.next then g b else if b∈z60 (w 0) then 3*f+1 else if b∈z60 (w 1) then 3*f+2 else 3*f+3,?_,fun f' k hf' hk b hb=>?_⟩,fun f' k hf' hk b hb=>?_,fun f' hf'=>?_,by rw[t.2.1,K.ex],K.hp,Nat.le_trans K.ho hB,fun b hb=>K.nw b (Nat.le_trans hle hb)⟩
 ·unfold Go.Proofs.Ytpnccmlajhhpdaa.upd
  by_cases e:f'=f
  ·rw [if_pos e, if_pos e, e]
   exact hc
  ·rw [if_neg e, if_neg e]
   have hk:=K.cells f' hf';have key:∀j,j<5→D'[5*f'+j]? =D[5*f'+j]?:=fun j hj=>rest _ (by omega);exact⟨(key 0 (by decide)).trans hk.c0,(key 1 (by decide)).trans hk.c1,(key 2 (by decide)).trans hk.c2,(key 3 (by decide)).trans hk.c3,(key 4 (by decide)).trans hk.c4⟩
 ·rw [rest _ (by omega)]
  exact K.cp
 ·rw [rest _ (by omega)]
  exact K.co
 ·unfold Go.Proofs.Ytpnccmlajhhpdaa.upd
  by_cases e:f'=f
  ·rw [if_pos e, if_pos e]
   exact hm
  ·rw [if_neg e, if_neg e]
   exact(K.mem f' hf').tch t (ot f' hf' e)
 ·show (if db < h.next then g db else _) = 0
  rw[if_pos hdn];exact g0
 ·show (if b < h.next then g b else _) = _
  unfold Go.Proofs.Ytpnccmlajhhpdaa.upd at hb
  by_cases e:f'=f
  ·rw [if_pos e] at hb
   subst e
   by_cases hl:b<h.next
   ·rw [if_pos hl]
    rcases bw k hk b hb with hb'|hb'
    ·exact g1 f' k hf' hk b hb'
    ·omega
   ·rw [if_neg hl]
    rcases k with _|_|_|k
    ·rw[if_pos hb]
    ·rw[if_neg (bd 1 0 (by decide) (by decide) (by decide) b hb),if_pos hb]
    ·rw[if_neg (bd 2 0 (by decide) (by decide) (by decide) b hb),if_neg (bd 2 1 (by decide) (by decide) (by decide) b hb)]
    ·omega
  ·rw [if_neg e] at hb
   rw[if_pos (K.lt hf' hk b hb)];exact g1 f' k hf' hk b hb
 ·unfold Go.Proofs.Ytpnccmlajhhpdaa.upd at hb
  by_cases e:f'=f
  ·rw [if_pos e] at hb
   rcases bw k hk b hb with hb'|hb'
   ·exact K.low f k hf hk b hb'
   ·exact K.nw b hb'
  ·rw [if_neg e] at hb
   exact K.low f' k hf' hk b hb
 ·unfold Go.Proofs.Ytpnccmlajhhpdaa.upd
  by_cases e:f'=f
  ·rw [if_pos e]
   exact hok
  ·rw [if_neg e]
   obtain⟨o1,o2,o3,o4⟩:=K.ok f' hf';exact⟨o1,o2,by omega,by omega⟩
theorem DiskAt.tch{S:List Nat}(K:DiskAt lo h db D fs vs p ops B)(t:Tch S h h')(hS:∀b∈S,¬lo b∨h.next≤b):DiskAt lo h' db D fs vs p ops B:=by
 have hd:=K.hdb;have hl:=K.hlo;refine⟨K.row.tch t hd fun hb=>?_,Nat.lt_of_lt_of_le hd t.1,hl,K.len,K.cells,K.cp,K.co,fun f hf=>(K.mem f hf).tch t fun k hk b hb hm=>?_,K.own,K.low,K.ok,by rw[t.2.1,K.ex],K.hp,K.ho,fun b hb=>K.nw b (Nat.le_trans t.1 hb)⟩
 ·rcases hS _ hb with hb | hb
  ·exact hb hl
  ·omega
 ·have h2 := K.lt hf hk b hb
  rcases hS _ hm with hm|hm
  ·exact hm (K.low f k hf hk b hb)
  ·omega
theorem z26d(b o:Nat)(h:AHeap):z75 Try.prog h .eql 36 true (some (.ptr b o)) (some AV.nilp)=some (.val (.bool false),h):=by kernel_rfl
theorem neqDisk(b o:Nat)(h:AHeap):z75 Try.prog h .neq 36 true (some (.ptr b o)) (some AV.nilp)=some (.val (.bool true),h):=by kernel_rfl
def z116(p:Int):Int:=if 0<p then p - 1 else p
theorem z29d(K:DiskAt lo h db D fs vs p ops B)(hB:B<10000000):∃h' D',world n (d+1) 74 [.ptr db 0] h=some (.ret (.tup []),h')∧DiskAt lo h' db D' fs vs (z116 p) (ops+1) (B+1)∧Tch [db] h h':=by
 suffices hK:Wp (world n (d+1) 74 [.ptr db 0] h) fun r h'=>∃D',r=.ret (.tup [])∧DiskAt lo h' db D' fs vs (z116 p) (ops+1) (B+1)∧Tch [db] h h' by
  obtain⟨_,h',e,D',rfl,k⟩:=hK;exact⟨h',D',e,k⟩
 rw[z27b];unfold zab;have hp:=K.hp;have ho:=K.ho;have hl:=K.len
 have fin:∀{H:AHeap} {E:List AV},RowH H db z2dc E→E.length=162→(∀i,i<160→E[i]? =D[i]?)→E[160]? =some (.int .i64 (z116 p))→E[161]? =some (.int .i64 ((ops+1:Nat):Int))→Tch [db] h H→DiskAt lo H db E fs vs (z116 p) (ops+1) (B+1):=by
  intro H E kr hE hr e1 e2 t;refine⟨kr,Nat.lt_of_lt_of_le K.hdb t.1,K.hlo,hE,fun f hf=>?_,e1,e2,fun f hf=>(K.mem f hf).tch t fun k hk b hb hm=>K.nd hf hk (List.mem_singleton.1 hm▸hb),K.own,K.low,fun f hf=>?_,by rw[t.2.1,K.ex],?_,by omega,fun b hb=>K.nw b (Nat.le_trans t.1 hb)⟩
  ·have hk := K.cells f hf
   have key:∀j,j<5→E[5*f+j]? =D[5*f+j]?:=fun j hj=>hr _ (by omega);exact⟨(key 0 (by decide)).trans hk.c0,(key 1 (by decide)).trans hk.c1,(key 2 (by decide)).trans hk.c2,(key 3 (by decide)).trans hk.c3,(key 4 (by decide)).trans hk.c4⟩
  ·obtain ⟨o1, o2, o3, o4⟩ := K.ok f hf
   exact⟨o1,o2,by omega,by omega⟩
  ·unfold z116
   split<;>omega
 have c1:=RowH.cell' K.row K.co;refine Wp.obind (zf _ _) (Wp.obind (z8 _ _ _) (Wp.obind c1 (Wp.obind (z7 _ _) (yd (by omega) (by omega) (Wp.obind (zf _ _) (Wp.obind (z8 _ _ _) (Wp.st1 K.row (show 0+161<D.length by omega) rfl fun h2 k2 t2 n2=>?_)))))))
 have g0:(D.set (0+161) (.int .i64 ((ops:Int)+1)))[0+160]? =some (.int .i64 p):=by
  rw[List.getElem?_set_ne (by omega)];exact K.cp
 have g1:(D.set (0+161) (.int .i64 ((ops:Int)+1)))[161]? =some (.int .i64 ((ops+1:Nat):Int)):=by
  rw[List.getElem?_set_self (by omega)];rfl
 refine Wp.obind (zf _ _) (Wp.obind (z8 _ _ _) (Wp.obind (RowH.cell' k2 g0) (Wp.obind (z7 _ _) (Wp.lett (y7 fun k17 ek=>?_)))))
 by_cases h0:0<p
 ·refine y9 (by rw [decide_eq_true_eq]; exact h0) (Wp.obind (zf _ _) (Wp.obind (z8 _ _ _) (Wp.obind (RowH.cell' k2 g0) (Wp.obind (z7 _ _) (yd (by omega) (by omega) (Wp.obind (zf _ _) (Wp.obind (z8 _ _ _) (Wp.st1 k2 (show 0 + 160 < _ by rw [List.length_set]; omega) rfl fun h3 k3 t3 n3 => ?_))))))))
  rw[ek];refine Wp.ret ⟨_,rfl,fin k3 (by rw[List.length_set,List.length_set];exact hl) (fun i hi=>by rw[List.getElem?_set_ne (by omega),List.getElem?_set_ne (by omega)]) ?_ (by rw[List.getElem?_set_ne (by omega)];exact g1) (t2.trans t3),t2.trans t3⟩;rw[List.getElem?_set_self (by rw[List.length_set];omega)];unfold z116;rw[if_pos h0]
 ·refine y8 (by rw [decide_eq_false_iff_not]; exact h0) ?_
  rw[ek];refine Wp.ret ⟨_,rfl,fin k2 (by rw[List.length_set];exact hl) (fun i hi=>by rw[List.getElem?_set_ne (by omega)]) ?_ g1 t2,t2⟩;have g0':=g0;rw[Nat.zero_add] at g0';unfold z116;rw[if_neg h0];exact g0'
theorem on_w(K:DiskAt lo h db D fs vs p ops B):world n (d+1) 59 [.ptr db 0] h=some (.ret (.bool (decide (p≠0))),h):=by
 apply Wp.eq;rw[z2e7];unfold zfa
 have e:(p != 0)=decide (p≠0):=by
  by_cases h0:p=0
  ·subst h0
   rfl
  ·rw[bne_iff_ne.2 h0,decide_eq_true h0]
 refine Wp.outK (neqDisk db 0 h) (Wp.obind (z11 _) (y7 fun j11 ej=>y9 rfl (Wp.obind (zf _ _) (Wp.obind (z8 _ _ _) (Wp.obind (RowH.cell' K.row (by rw[Nat.zero_add];exact K.cp)) (Wp.obind (z7 _ _) (Wp.lett ?_)))))));rw[ej,e];exact Wp.ret ⟨rfl,rfl⟩
theorem ops_w(K:DiskAt lo h db D fs vs p ops B):world n (d+1) 29 [.ptr db 0] h=some (.ret (.int .i64 (ops:Int)),h):=by
 apply Wp.eq;rw[z293];unfold zc8;exact Wp.outK (z26d db 0 h) (Wp.obind (z11 _) (y8 rfl (Wp.obind (zf _ _) (Wp.obind (z8 _ _ _) (Wp.obind (RowH.cell' K.row (by rw[Nat.zero_add];exact K.co)) (Wp.obind (z7 _ _) (Wp.ret ⟨rfl,rfl⟩)))))))
theorem z35b(z:Int):world n (d+1) 53 [.int .i64 z] h=some (.ret (.bool (decide (0≤z∧z<32))),h):=by
 apply Wp.eq;rw[z335];refine y3b ?_
 suffices hK:Wp (zed (world n d) n z h) fun r h'=>r=.ret (.bool (decide (0≤z∧z<32)))∧h'=h from hK.mono fun r h' ⟨e,t⟩=>⟨by rw[t];exact(Tch.refl [] h).above,by rw[e];rfl,e,rfl⟩
 unfold zed;refine Wp.lett (y7 fun j8 ej=>?_)
 by_cases h0:0≤z
 ·refine y9 (by rw [decide_eq_true_eq]; exact h0) (Wp.lett ?_)
  rw[ej];have e:decide (z<32)=decide (0≤z∧z<32):=decide_eq_decide.2 ⟨fun h=>⟨h0,h⟩,fun h=>h.2⟩;rw[e];exact Wp.ret ⟨rfl,rfl⟩
 ·refine y8 (by rw [decide_eq_false_iff_not]; exact h0) ?_
  rw[ej,decide_eq_false (show ¬(0≤z∧z<32) from fun h=>h0 h.1)];exact Wp.ret ⟨rfl,rfl⟩
def z1a3(p z:Int):Int:=if p=0 then 40 else if 0≤z∧z<32 then 0 else 2
theorem z215(K:DiskAt lo h db D fs vs p ops B)(z:Int):world n (d+2) 50 [.ptr db 0,.int .i64 z] h=some (.ret (.int .i64 (z1a3 p z)),h):=by
 apply Wp.eq;rw[z1ef];unfold z6b;refine Wp.outK (z26d db 0 h) (Wp.obind (z11 _) (y8 rfl (Wp.callN (on_w K) (Wp.obind (z11 _) ?_))));unfold z1a3
 by_cases h0:p=0
 ·rw [if_pos h0, decide_eq_false (show ¬ p ≠ 0 from fun h => h h0)]
  repeat(first|(with_reducible first|refine y28 (fun _ _=>?_)|refine y27 (fun _ _=>?_)|refine Wp.join2 (fun _ _=>?_))|((with_reducible first|refine yd ?_ ?_ ?_|refine y13 ?_ ?_ ?_|refine Wp.lettu8 ?_ ?_ ?_|refine y19 ?_ ?_ ?_);omega;omega)|(with_reducible refine Wp.lett ?_)|((with_reducible apply Wp.obind);first|(with_reducible first|exact z7 _ _|exact z11 _|exact ze _|exact zf _ _|exact z8 _ _ _|exact z40 _|exact zf9 _ _|exact zf8 _ _ _|exact z165 _ _ _ _|assumption)|((with_reducible first|apply RowH.cell'|apply RowH.ldAll);(with_reducible assumption);rfl))|((with_reducible refine y9 ?_ ?_);first|(with_reducible first|rfl|assumption|exact Bool.not_false)|((with_reducible first|apply decide_eq_true|apply not_df|apply z1af|apply z127);omega))|((with_reducible refine y8 ?_ ?_);first|(with_reducible first|rfl|assumption|exact Bool.not_true)|((with_reducible first|apply decide_eq_false|apply not_dt|apply z185|apply zca);omega))|((with_reducible first|apply Wp.callN|apply Wp.callK);(with_reducible assumption))|(with_reducible first|(apply Wp.outK;assumption)|(first|refine y38 (by assumption) ?_|refine y37 (by assumption) ?_|refine Wp.go2 (by assumption) ?_))|rw[z23])
  exact Wp.ret ⟨rfl,rfl⟩
 ·rw [if_neg h0, decide_eq_true (show p ≠ 0 from h0)]
  refine Wp.lett (y8 rfl (Wp.callN (z35b z) (Wp.obind (z11 _) ?_)))
  by_cases h1:0≤z∧z<32
  ·rw [if_pos h1, decide_eq_true h1]
   repeat(first|(with_reducible first|refine y28 (fun _ _=>?_)|refine y27 (fun _ _=>?_)|refine Wp.join2 (fun _ _=>?_))|((with_reducible first|refine yd ?_ ?_ ?_|refine y13 ?_ ?_ ?_|refine Wp.lettu8 ?_ ?_ ?_|refine y19 ?_ ?_ ?_);omega;omega)|(with_reducible refine Wp.lett ?_)|((with_reducible apply Wp.obind);first|(with_reducible first|exact z7 _ _|exact z11 _|exact ze _|exact zf _ _|exact z8 _ _ _|exact z40 _|exact zf9 _ _|exact zf8 _ _ _|exact z165 _ _ _ _|assumption)|((with_reducible first|apply RowH.cell'|apply RowH.ldAll);(with_reducible assumption);rfl))|((with_reducible refine y9 ?_ ?_);first|(with_reducible first|rfl|assumption|exact Bool.not_false)|((with_reducible first|apply decide_eq_true|apply not_df|apply z1af|apply z127);omega))|((with_reducible refine y8 ?_ ?_);first|(with_reducible first|rfl|assumption|exact Bool.not_true)|((with_reducible first|apply decide_eq_false|apply not_dt|apply z185|apply zca);omega))|((with_reducible first|apply Wp.callN|apply Wp.callK);(with_reducible assumption))|(with_reducible first|(apply Wp.outK;assumption)|(first|refine y38 (by assumption) ?_|refine y37 (by assumption) ?_|refine Wp.go2 (by assumption) ?_))|rw[z23])
   exact Wp.ret ⟨rfl,rfl⟩
  ·rw [if_neg h1, decide_eq_false h1]
   repeat(first|(with_reducible first|refine y28 (fun _ _=>?_)|refine y27 (fun _ _=>?_)|refine Wp.join2 (fun _ _=>?_))|((with_reducible first|refine yd ?_ ?_ ?_|refine y13 ?_ ?_ ?_|refine Wp.lettu8 ?_ ?_ ?_|refine y19 ?_ ?_ ?_);omega;omega)|(with_reducible refine Wp.lett ?_)|((with_reducible apply Wp.obind);first|(with_reducible first|exact z7 _ _|exact z11 _|exact ze _|exact zf _ _|exact z8 _ _ _|exact z40 _|exact zf9 _ _|exact zf8 _ _ _|exact z165 _ _ _ _|assumption)|((with_reducible first|apply RowH.cell'|apply RowH.ldAll);(with_reducible assumption);rfl))|((with_reducible refine y9 ?_ ?_);first|(with_reducible first|rfl|assumption|exact Bool.not_false)|((with_reducible first|apply decide_eq_true|apply not_df|apply z1af|apply z127);omega))|((with_reducible refine y8 ?_ ?_);first|(with_reducible first|rfl|assumption|exact Bool.not_true)|((with_reducible first|apply decide_eq_false|apply not_dt|apply z185|apply zca);omega))|((with_reducible first|apply Wp.callN|apply Wp.callK);(with_reducible assumption))|(with_reducible first|(apply Wp.outK;assumption)|(first|refine y38 (by assumption) ?_|refine y37 (by assumption) ?_|refine Wp.go2 (by assumption) ?_))|rw[z23])
   exact Wp.ret ⟨rfl,rfl⟩
end
open Go.RowKit Abs
theorem idxF{b i:Nat}(h:i<32):z169 32 5 (.ptr b (0+0)) (i:Int)=some (.ptr b (5*i)):=by
 have e:Nat.blt i 32=true:=by simpa using h
 show (match Nat.blt i 32 with|true=>some (AV.ptr b (0+0+i*5))|false=>none)=_;rw[e,show 0+0+i*5=5*i by omega]
section
variable {lo:Nat→Prop}{n d db:Nat}{h:AHeap}{D:List AV}{fs:Nat→FileS}{vs:Nat→Nat→AV}{p:Int}{ops B f:Nat}
def z2b5(x:FileS)(c:Chg):FileS:=⟨x.sure,do1 x.seen c,x.loose++[c]⟩
theorem z43c{x:FileS}{c:Chg}{B:Nat}(k:FileOk x B)(hl:z3bb x.seen c):FileOk (z2b5 x c) (B+c.s.length+1):=by
 obtain⟨k1,k2,k3,k4⟩:=k;refine⟨?_,?_,?_,?_⟩
 ·show do1 x.seen c = doL x.sure (x.loose ++ [c])
  rw[z458, ←k1]
 ·exact z32e _ _ _ k2 (by show z3bb (doL x.sure x.loose) c;rw[←k1];exact hl)
 ·show x.sure.u.length + z29a (x.loose ++ [c]) ≤ _
  rw[z390];omega
 ·show (x.loose ++ [c]).length ≤ _
  rw[List.length_append,List.length_singleton];omega
theorem z3d5(hn:1000000<n)(K:DiskAt lo h db D fs vs p ops B)(hf:f<32){c:Chg}(hL:z3bb (fs f).seen c)(hb:B+c.s.length<9000000):
  ∃h' D' vs' S,world n (d+2) 51 [.ptr db 0,.int .i64 (f:Int),.agg (z37a c)] h=some (.ret (.int .i64 0),h')∧DiskAt lo h' db D' (upd fs f (z2b5 (fs f) c)) vs' (z116 p) (ops+1) (B+c.s.length+2)∧Tch S h h'∧∀b∈S,lo b:=by
 suffices hK:Wp (world n (d+2) 51 [.ptr db 0,.int .i64 (f:Int),.agg (z37a c)] h) fun r h'=>∃D' vs' S,r=.ret (.int .i64 0)∧DiskAt lo h' db D' (upd fs f (z2b5 (fs f) c)) vs' (z116 p) (ops+1) (B+c.s.length+2)∧Tch S h h'∧∀b∈S,lo b by
  obtain⟨_,h',e,D',vs',S,rfl,k⟩:=hK;exact⟨h',D',vs',S,e,k⟩
 have C:=K.cells f hf;have Mf:=K.mem f hf;obtain⟨o1,o2,o3,o4⟩:=K.ok f hf;have hlen:=K.len;have hdb:=K.hdb;have hsl:=z13b (fs f).loose (fs f).sure;rw[←o1] at hsl;rw[z20b];unfold z78;refine y1f (Mem.nil [] h) rfl fun h2 M2=>?_;have t2:=M2.tch;refine Wp.obind (zf _ _) (Wp.obind (z8 _ _ _) (Wp.obind (idxF hf) (Wp.obind (zf _ _) (Wp.obind (z8 _ _ _) (Wp.obind (RowH.ldAll M2.at0.1 rfl) (y30 M2 (z371 _ _ _ _) rfl (by rw[K.ex];rfl) fun h3 M3=>?_))))));have t3:=M3.tch;have hn2:=t2.1;have hh2:=M2.at0.2.1;have hh3:=M3.at0.2.1;have hne1:h.next≠h2.next:=by omega
 have rd:RdL h3 (db::z60 (vs f 1)) (.sl h2.next 0 1 3) [c]:=by
  refine⟨rfl,fun H t i hi=>?_⟩
  have hi0:i=0:=by
   have:i<1:=hi;omega
  subst hi0;refine⟨_,idx3 (by decide),(RowH.ldAll (M3.at0.1.tch t hh3 fun hm=>?_) rfl)⟩
  rcases List.mem_cons.1 hm with hm|hm
  ·omega
  ·have := K.lt hf (k := 1) (by decide) _ hm
   omega
 obtain⟨h4,v4,e4,K4⟩:=do_ok (n:=n) (d:=d) (T:=z2dc) (o:=5*f+2) (x:=(fs f).seen) hn (Nat.lt_of_lt_of_le hdb t3.1) (K.row.tch t3 hdb (by simp)) C.c2 C.c3 (Mf.seen.tch t3 (fun _ _=>by simp)) (K.nd hf (by decide)) (by rw[t3.2.1,K.ex]) rd (by show 1<1000000;decide) ⟨hL,trivial⟩ (by show _+(c.s.length+0)≤_;omega);refine Wp.callN e4 (Wp.obind (zf _ _) (Wp.obind (z8 _ _ _) ?_));have hd4:doL (fs f).seen [c]=do1 (fs f).seen c:=rfl;rw[hd4] at K4
 have g4:((D.set (5*f+2) (.bool (do1 (fs f).seen c).th)).set (5*f+2+1) v4)[5*f+4]? =some (vs f 2):=by
  rw[List.getElem?_set_ne (by omega),List.getElem?_set_ne (by omega)];exact C.c4
 have hn34:=K4.tch.1
 have hb1:h.next ∉ db::z60 (vs f 1):=fun hm=>by
  rcases List.mem_cons.1 hm with hm|hm
  ·omega
  ·have := K.lt hf (k := 1) (by decide) _ hm
   omega
 have kb4:=M3.at1.1.tch K4.tch M3.at1.2.1 hb1;refine Wp.obind (RowH.cell' K4.row g4) (Wp.obind (RowH.ldAll kb4 rfl) (y30 (Mem.nil [] h4) (z371 _ _ _ _) rfl (by rw[K4.ex];rfl) fun h5 M5=>?_));have t5:=M5.tch;have hdb3:db<h3.next:=Nat.lt_of_lt_of_le hdb t3.1;have hdb4:db<h4.next:=Nat.lt_of_lt_of_le hdb3 hn34;have kr5:=K4.row.tch t5 hdb4 (by simp);refine Wp.chk (z186 rfl (z186 (ze4 (by kernel_rfl) (RowH.cell' kr5 g4)) rfl)) ?_
 have dis12:∀b∈z60 (vs f 2),b ∉ db::z60 (vs f 1):=fun b hb hm=>by
  rcases List.mem_cons.1 hm with rfl|hm
  ·exact K.nd hf (by decide) hb
  ·exact K.ne hf (by decide) hf (by decide) (fun h=>absurd h.2 (by decide)) b hb hm
 have kl5:=((Mf.loose.tch t3 (fun _ _=>by simp)).tch K4.tch dis12).tch t5 (fun _ _=>by simp);obtain⟨h6,e6,kl6,t6⟩:=kl5.push M5.at0.1 (by omega) (by rw[t5.2.1,K4.ex]);refine Wp.outK e6 (Wp.obind (zf _ _) (Wp.obind (z8 _ _ _) ?_));have hn5:=t5.1;have hn6:=t6.1;have hdb5:db<h5.next:=Nat.lt_of_lt_of_le hdb4 hn5;have kr6:=kr5.tch t6 hdb5 (K.nd hf (by decide));have l6:((D.set (5*f+2) (.bool (do1 (fs f).seen c).th)).set (5*f+2+1) v4).length=162:=by rw[List.length_set,List.length_set];exact hlen
 show Wp (Abs.obind (z22 h6 1 [AV.sl h5.next 0 ((fs f).loose.length+1) 3] (.ptr db (5*f+4))) _) _;refine Wp.st1 kr6 (show 5*f+4<_ by omega) rfl fun h7 k7 t7 n7=>?_
 -- the disk behind it
 have n35:h3.next≤h5.next:=Nat.le_trans hn34 hn5;have hv4:∀b∈z60 v4,b<h5.next:=fun b hb=>Nat.lt_of_lt_of_le (K4.buf.lt b hb) hn5;have hv4s:∀b∈z60 v4,b∈z60 (vs f 1)∨h.next≤b:=fun b hb=>(K4.sub b hb).imp id fun h=>Nat.le_trans t3.1 h
 have T:Tch (db::(z60 (vs f 1)++z60 (vs f 2))) h h7:=by
  refine((((t3.mono fun b hb=>nomatch hb).trans (K4.tch.mono fun b hb=>.inl ?_)).trans' t5 fun b hb=>nomatch hb).trans' t6 fun b hb=>.inl ?_).trans' t7 fun b hb=>.inl ?_
  ·rcases List.mem_cons.1 hb with hb | hb
   ·rw[hb];exact List.mem_cons_self
   ·exact List.mem_cons_of_mem _ (List.mem_append_left _ hb)
  ·exact List.mem_cons_of_mem _ (List.mem_append_right _ hb)
  ·rw[List.mem_singleton.1 hb];exact List.mem_cons_self
 have hw:∀b∈z60 (.sl h5.next 0 ((fs f).loose.length+1) 3),b=h5.next:=fun b hb=>List.mem_singleton.1 hb;have KU:=K.upd (B':=B+c.s.length+1) (x:=z2b5 (fs f) c) (w:=fun k=>if k=0 then vs f 0 else if k=1 then v4 else .sl h5.next 0 ((fs f).loose.length+1) 3) hf T (fun b hb=>?_) k7 (by rw[List.length_set];exact l6) ⟨?_,?_,?_,?_,?_⟩ (fun i hi=>?_) (fun k hk b hb=>?_) (fun k l hk hl hne b hb hb'=>?_) ⟨?_,?_,?_⟩ (z43c (K.ok f hf) hL) (by omega)
 ·obtain ⟨h8, D8, e8, K8, t8⟩ := z29d (n := n) (d := d) KU (by omega)
  refine Wp.callN e8 (Wp.ret ⟨D8,_,db::(z60 (vs f 1)++z60 (vs f 2)),rfl,K8,T.trans' t8 fun b hb=>.inl (by rw[List.mem_singleton.1 hb];exact List.mem_cons_self),fun b hb=>?_⟩)
  rcases List.mem_cons.1 hb with hb|hb
  ·rw [hb]
   exact K.hlo
  ·rcases List.mem_append.1 hb with hb | hb
   ·exact K.low f 1 hf (by decide) b hb
   ·exact K.low f 2 hf (by decide) b hb
 ·rcases List.mem_cons.1 hb with hb | hb
  ·exact .inl hb
  ·rcases List.mem_append.1 hb with hb | hb
   ·exact .inr ⟨1,by decide,hb⟩
   ·exact .inr ⟨2,by decide,hb⟩
 ·rw [List.getElem?_set_ne (by omega), List.getElem?_set_ne (by omega), List.getElem?_set_ne (by omega)]
  exact C.c0
 ·rw [List.getElem?_set_ne (by omega), List.getElem?_set_ne (by omega), List.getElem?_set_ne (by omega)]
  exact C.c1
 ·rw [List.getElem?_set_ne (by omega), List.getElem?_set_ne (by omega), List.getElem?_set_self (by omega)]
  rfl
 ·rw [List.getElem?_set_ne (by omega), List.getElem?_set_self (by rw [List.length_set]; omega)]
  rfl
 ·rw [List.getElem?_set_self (by omega)]
  rfl
 ·rw[List.getElem?_set_ne (by omega),List.getElem?_set_ne (by omega),List.getElem?_set_ne (by omega)]
 ·rcases k with _ | _ | k
  ·exact .inl hb
  ·exact hv4s b hb
  ·right
   have:=hw b hb;omega
 ·have k0 : ∀ k, k < 3 → ∀ b ∈ z60 ((fun k => if k = 0 then vs f 0 else if k = 1 then v4 else AV.sl h5.next 0 ((fs f).loose.length + 1) 3) k), (k = 0 ∧ b ∈ z60 (vs f 0)) ∨ (k = 1 ∧ b ∈ z60 v4) ∨ (k = 2 ∧ b = h5.next) := by
   intro k hk b hb
   rcases k with _|_|_|k
   ·exact .inl ⟨rfl,hb⟩
   ·exact .inr (.inl ⟨rfl,hb⟩)
   ·exact .inr (.inr ⟨rfl,hw b hb⟩)
   ·omega
  have q01:b∈z60 (vs f 0)→b∈z60 v4→False:=fun h0 h1=>by
   rcases hv4s b h1 with h1|h1
   ·exact K.ne hf (by decide) hf (by decide) (fun h=>absurd h.2 (by decide)) b h0 h1
   ·have := K.lt hf (k := 0) (by decide) b h0
    omega
  have q02:b∈z60 (vs f 0)→b<h5.next:=fun h0=>by
   have:=K.lt hf (k:=0) (by decide) b h0;have:=t3.1;omega
  rcases k0 k hk b hb with⟨e1,b1⟩|⟨e1,b1⟩|⟨e1,b1⟩<;>rcases k0 l hl b hb' with⟨e2,b2⟩|⟨e2,b2⟩|⟨e2,b2⟩
  ·omega
  ·exact q01 b1 b2
  ·have := q02 b1
   omega
  ·exact q01 b2 b1
  ·omega
  ·have := hv4 b b1
   omega
  ·have := q02 b2
   omega
  ·have := hv4 b b2
   omega
  ·omega
 ·refine Mf.sure.tch T fun b hb hm => ?_
  rcases List.mem_cons.1 hm with rfl|hm
  ·exact K.nd hf (by decide) hb
  ·rcases List.mem_append.1 hm with hm | hm
   ·exact K.ne hf (by decide) hf (by decide) (fun h=>absurd h.2 (by decide)) b hb hm
   ·exact K.ne hf (by decide) hf (by decide) (fun h=>absurd h.2 (by decide)) b hb hm
 ·refine ((K4.buf.tch t5 (fun _ _ => by simp)).tch t6 fun b hb hm => ?_).tch t7 fun b hb hm => K4.ndb (List.mem_singleton.1 hm ▸ hb)
  rcases hv4s b hb with hb|hb
  ·exact K.ne hf (by decide) hf (by decide) (fun h=>absurd h.2 (by decide)) b hb hm
  ·have := K.lt hf (k := 2) (by decide) b hm
   omega
 ·refine kl6.tch t7 fun b hb hm => ?_
  have h1:=hw b hb;have h2:=List.mem_singleton.1 hm;omega
end
structure DS where
 fs:Nat→FileS
 p:Int
 ops:Nat
def At(lo:Nat→Prop)(h:AHeap)(db:Nat)(s:DS)(B:Nat):Prop:=∃D vs,DiskAt lo h db D s.fs vs s.p s.ops B
def z476(x:FileS)(c:Chg):Int:=if c.k=0 then (if (1048576:Int) - (x.seen.u.length:Int)<(c.s.length:Int) then 8 else 0) else if x.seen.th=false then 4 else if c.k=1∧(c.n<0∨(x.seen.u.length:Int)<c.n) then 5 else 0
def z1e6(s:DS)(z:Int)(c:Chg):Int:=if z1a3 s.p z=0 then z476 (s.fs z.toNat) c else z1a3 s.p z
def z287(s:DS)(z:Int)(c:Chg):DS:=if z1e6 s z c=0 then ⟨upd s.fs z.toNat (z2b5 (s.fs z.toNat) c),z116 s.p,s.ops+1⟩ else s
def synF(x:FileS):FileS:=⟨x.seen,x.seen,[]⟩
def z3e3(s:DS)(z:Int):DS:=if z1a3 s.p z=0 then ⟨upd s.fs z.toNat (synF (s.fs z.toNat)),z116 s.p,s.ops+1⟩ else s
theorem z3a7{p z:Int}(h:z1a3 p z=0):p≠0∧∃f:Nat,z=(f:Int)∧f<32:=by
 unfold z1a3 at h
 split at h
 ·omega
 ·split at h
  ·exact⟨by assumption,z.toNat,by omega,by omega⟩
  ·omega
section
variable {lo:Nat→Prop}{n d db:Nat}{h:AHeap}{D:List AV}{fs:Nat→FileS}{vs:Nat→Nat→AV}{p:Int}{ops B f:Nat}{s:DS}
theorem DiskAt.mono{B':Nat}(K:DiskAt lo h db D fs vs p ops B)(hB:B≤B'):DiskAt lo h db D fs vs p ops B':=
 ⟨K.row,K.hdb,K.hlo,K.len,K.cells,K.cp,K.co,K.mem,K.own,K.low,fun f hf=>by obtain⟨o1,o2,o3,o4⟩:=K.ok f hf;exact⟨o1,o2,by omega,by omega⟩,K.ex,K.hp,by have:=K.ho;omega,K.nw⟩
theorem At.mono{B':Nat}(K:At lo h db s B)(hB:B≤B'):At lo h db s B':=by
 obtain⟨D,vs,K⟩:=K;exact⟨D,vs,K.mono hB⟩
theorem At.ex(K:At lo h db s B):h.ex=[89]:=by
 obtain⟨D,vs,K⟩:=K;exact K.ex
theorem At.tch{S:List Nat}{h':AHeap}(K:At lo h db s B)(t:Tch S h h')(hS:∀b∈S,¬lo b∨h.next≤b):At lo h' db s B:=by
 obtain⟨D,vs,K⟩:=K;exact⟨D,vs,K.tch t hS⟩
theorem At.part{S:List Nat}{h':AHeap}(K:At lo h db s B)(t:Tch S h h')(hS:∀b∈S,¬lo b∨h.next≤b):At (fun b=>lo b∧(b<h.next∨h'.next≤b)) h' db s B:=by
 obtain⟨D,vs,K⟩:=K;have K':=K.tch t hS;exact⟨D,vs,K'.row,K'.hdb,⟨K'.hlo,.inl K.hdb⟩,K'.len,K'.cells,K'.cp,K'.co,K'.mem,K'.own,fun f k hf hk b hb=>⟨K'.low f k hf hk b hb,.inl (K.lt hf hk b hb)⟩,K'.ok,K'.ex,K'.hp,K'.ho,fun b hb=>⟨K'.nw b hb,.inr hb⟩⟩
def Does(lo:Nat→Prop)(db:Nat)(h:AHeap)(x:R)(e:Int)(s':DS)(B':Nat):Prop:=∃h' S,x=some (.ret (.int .i64 e),h')∧At lo h' db s' B'∧Tch S h h'∧∀b∈S,lo b
theorem Does.of{x:R}{e:Int}{s':DS}{B':Nat}(k:Wp x fun r h'=>r=.ret (.int .i64 e)∧∃S,At lo h' db s' B'∧Tch S h h'∧∀b∈S,lo b):Does lo db h x e s' B':=by
 obtain⟨_,h',e,rfl,S,k⟩:=k;exact⟨h',S,e,k⟩
theorem z26c{f:Nat}{c:Chg}(h0:z1a3 s.p (f:Int)=0):z1e6 s (f:Int) c=z476 (s.fs f) c:=by
 unfold z1e6;rw[if_pos h0,Int.toNat_natCast]
theorem z3e2{f:Nat}{c:Chg}(h0:z1a3 s.p (f:Int)=0)(h1:z476 (s.fs f) c=0):z287 s (f:Int) c=⟨upd s.fs f (z2b5 (s.fs f) c),z116 s.p,s.ops+1⟩:=by
 unfold z287;rw[z26c h0,if_pos h1,Int.toNat_natCast]
theorem z2db{z:Int}{c:Chg}(h1:z1e6 s z c≠0):z287 s z c=s:=by
 unfold z287;rw[if_neg h1]
theorem z367{z:Int}{c:Chg}(h0:z1a3 s.p z≠0):z1e6 s z c=z1a3 s.p z:=by
 unfold z1e6;rw[if_neg h0]
theorem z235{u:Bytes}{z:Int}(hn:1000000<n)(K:At lo h db s B)(hb:B+u.length<9000000):Does lo db h (world n (d+3) 26 [.ptr db 0,.int .i64 z,z5 u] h) (z1e6 s z ⟨0,u,0⟩) (z287 s z ⟨0,u,0⟩) (B+u.length+2):=by
 apply Does.of;have KA:=K;obtain⟨D,vs,K⟩:=K;rw[z20d];unfold z7a;refine Wp.callN (z215 K z) (Wp.obind (z7 _ _) (Wp.lett ?_))
 by_cases h0:z1a3 s.p z=0
 ·obtain ⟨hp, f, rfl, hf⟩ := z3a7 h0
  have C:=K.cells f hf;have Mf:=K.mem f hf;obtain⟨o1,o2,o3,o4⟩:=K.ok f hf;have hsl:=z13b (s.fs f).loose (s.fs f).sure;rw[←o1] at hsl;refine y8 (z185 h0) (Wp.obind (zf _ _) (Wp.obind (z8 _ _ _) (Wp.obind (idxF hf) (Wp.obind (z8 _ _ _) (Wp.obind (z8 _ _ _) (Wp.obind (RowH.cell' K.row C.c3) (Wp.obind Mf.seen.len (yd (by omega) (by omega) ?_))))))));have hlu:=z2d u
  have hown:z476 (s.fs f) ⟨0,u,0⟩=if (1048576:Int) - ((s.fs f).seen.u.length:Int)<(u.length:Int) then 8 else 0:=by
   unfold z476;rw[if_pos rfl]
  refine Wp.lett ?_
  by_cases h1:(1048576:Int) - ((s.fs f).seen.u.length:Int)<(u.length:Int)
  ·rw [if_pos h1] at hown
   have he:=(z26c h0).trans hown;rw[z2db (by omega),he];exact y9 (by rw[decide_eq_true_eq];omega) (Wp.ret ⟨rfl,[],KA.mono (by omega),Tch.refl _ _,fun _ h=>nomatch h⟩)
  ·rw [if_neg h1] at hown
   rw[(z26c h0).trans hown,z3e2 h0 hown];refine y8 (by rw[decide_eq_false_iff_not];omega) ?_;obtain⟨h',D',vs',S,e,K',t,hS⟩:=z3d5 (n:=n) (d:=d) hn K hf (c:=⟨0,u,0⟩) (.inl rfl) hb;exact Wp.callN e (Wp.obind (z7 _ _) (Wp.ret ⟨rfl,S,⟨D',vs',K'⟩,t,hS⟩))
 ·rw [z2db (by rw [z367 h0]; exact h0), z367 h0]
  exact y9 (z1af h0) (Wp.ret ⟨rfl,[],KA.mono (by omega),Tch.refl _ _,fun _ h=>nomatch h⟩)
theorem remove_ok{z:Int}(hn:1000000<n)(K:At lo h db s B)(hb:B<9000000):Does lo db h (world n (d+3) 63 [.ptr db 0,.int .i64 z] h) (z1e6 s z ⟨2,[],0⟩) (z287 s z ⟨2,[],0⟩) (B+2):=by
 apply Does.of;have KA:=K;obtain⟨D,vs,K⟩:=K;rw[z20c];unfold z79;refine Wp.callN (z215 K z) (Wp.obind (z7 _ _) (Wp.lett ?_))
 by_cases h0:z1a3 s.p z=0
 ·obtain ⟨hp, f, rfl, hf⟩ := z3a7 h0
  have C:=K.cells f hf
  have hown:z476 (s.fs f) ⟨2,[],0⟩=if (s.fs f).seen.th=false then 4 else 0:=by
   unfold z476;rw[if_neg (show ¬(2:Nat)=0 by omega)]
   split
   ·rfl
   ·rw[if_neg (fun h=>absurd h.1 (by decide))]
  refine y8 (z185 h0) (Wp.obind (zf _ _) (Wp.obind (z8 _ _ _) (Wp.obind (idxF hf) (Wp.obind (z8 _ _ _) (Wp.obind (z8 _ _ _) (Wp.obind (RowH.cell' K.row C.c2) (Wp.obind (z11 _) (Wp.lett ?_))))))));cases hth:(s.fs f).seen.th with
  |false=>
   rw[hth,if_pos rfl] at hown;have he:=(z26c h0).trans hown;rw[z2db (by omega),he];exact y9 rfl (Wp.ret ⟨rfl,[],KA.mono (by omega),Tch.refl _ _,fun _ h=>nomatch h⟩)
  |true=>
   rw[hth,if_neg (by decide)] at hown;rw[(z26c h0).trans hown,z3e2 h0 hown];refine y8 rfl ?_;obtain⟨h',D',vs',S,e,K',t,hS⟩:=z3d5 (n:=n) (d:=d) hn K hf (c:=⟨2,[],0⟩) (.inr (.inr rfl)) (by show B+0<_;omega);exact Wp.callN e (Wp.obind (z7 _ _) (Wp.ret ⟨rfl,S,⟨D',vs',K'⟩,t,hS⟩))
 ·rw [z2db (by rw [z367 h0]; exact h0), z367 h0]
  exact y9 (z1af h0) (Wp.ret ⟨rfl,[],KA.mono (by omega),Tch.refl _ _,fun _ h=>nomatch h⟩)
end
theorem z142{r t:List AV}{k:Nat}(hr:r.length=k):∀(m f j:Nat),f<m→j<k→((List.replicate m r).flatten++t)[k*f+j]? =r[j]?
 |0,_,_,h,_=>absurd h (Nat.not_lt_zero _)
 |m+1,0,j,_,hj=>by
  rw[List.replicate_succ,List.flatten_cons,List.append_assoc,Nat.mul_zero,Nat.zero_add,List.getElem?_append_left (by omega)]
 |m+1,f+1,j,h,hj=>by
  rw[List.replicate_succ,List.flatten_cons,List.append_assoc,List.getElem?_append_right (by rw[Nat.mul_succ];omega),hr,show k*(f+1)+j - k=k*f+j by rw[Nat.mul_succ];omega];exact z142 hr m f j (by omega) hj
section
variable {lo:Nat→Prop}{n d db:Nat}{h:AHeap}{D:List AV}{fs:Nat→FileS}{vs:Nat→Nat→AV}{p:Int}{ops B f:Nat}{s:DS}
theorem DiskAt.setP{p':Int}{h':AHeap}(K:DiskAt lo h db D fs vs p ops B)(hp: -1≤p'∧p'<9223372036854775808)(kr:RowH h' db z2dc (D.set 160 (.int .i64 p')))(t:Tch [db] h h'):DiskAt lo h' db (D.set 160 (.int .i64 p')) fs vs p' ops B:=by
 have hl:=K.len;refine⟨kr,Nat.lt_of_lt_of_le K.hdb t.1,K.hlo,by rw[List.length_set];exact hl,fun f hf=>?_,by rw[List.getElem?_set_self (by omega)],by rw[List.getElem?_set_ne (by omega)];exact K.co,fun f hf=>(K.mem f hf).tch t fun k hk b hb hm=>K.nd hf hk (List.mem_singleton.1 hm▸hb),K.own,K.low,K.ok,by rw[t.2.1,K.ex],hp,K.ho,fun b hb=>K.nw b (Nat.le_trans t.1 hb)⟩;have hk:=K.cells f hf;have key:∀j,j<5→(D.set 160 (.int .i64 p'))[5*f+j]? =D[5*f+j]?:=fun j hj=>by rw[List.getElem?_set_ne (by omega)]
 exact⟨(key 0 (by decide)).trans hk.c0,(key 1 (by decide)).trans hk.c1,(key 2 (by decide)).trans hk.c2,(key 3 (by decide)).trans hk.c3,(key 4 (by decide)).trans hk.c4⟩
theorem power_ok{m:Int}(hm:m<9223372036854775808)(K:At lo h db s B):Does lo db h (world n (d+1) 23 [.ptr db 0,.int .i64 m] h) 0 ⟨s.fs,if -1>m then -1 else m,s.ops⟩ B:=by
 apply Does.of;obtain⟨D,vs,K⟩:=K;rw[z23f];unfold z9a;refine Wp.outK (z26d db 0 h) (Wp.obind (z11 _) (y8 rfl (Wp.lett (Wp.obind (zf _ _) (Wp.obind (z8 _ _ _) ?_)))));have hl:=K.len;refine Wp.st1 K.row (show 0+160<D.length by omega) rfl fun h2 k2 t2 n2=>Wp.ret ⟨rfl,[db],⟨_,vs,K.setP (by show -1≤(if -1>m then (-1:Int) else m)∧(if -1>m then (-1:Int) else m)<9223372036854775808;split<;>omega) ?_ t2⟩,t2,fun b hb=>by rw[List.mem_singleton.1 hb];exact K.hlo⟩;rw[Nat.zero_add] at k2;exact k2
abbrev z44e:FileS:=⟨⟨false,[]⟩,⟨false,[]⟩,[]⟩
abbrev newS:DS:=⟨fun _=>z44e, -1,0⟩
theorem new_ok(hx:h.ex=[89]):∃h',world n (d+1) 13 [] h=some (.ret (.ptr h.next 0),h')∧At (fun b=>h.next≤b) h' h.next newS 0∧Tch [] h h':=by
 suffices hK:Wp (z19f (world n d) n h) fun r h'=>r=.ret (.ptr h.next 0)∧At (fun b=>h.next≤b) h' h.next newS 0∧Tch [] h h' by
  obtain⟨r,h',e,rfl,k⟩:=hK;refine⟨h',?_,k⟩;rw[z469,e];refine z35e ?_;show Nat.blt h.next h.next=false
  cases e:Nat.blt h.next h.next with
  |false=>rfl
  |true=>
   have:=blt_lt' e;omega
 unfold z19f;exact Wp.outK (z41c (by kernel_rfl)) (Wp.ret ⟨rfl,⟨(List.replicate 32 [.bool false,.nsl,.bool false,.nsl,.nsl]).flatten++[.int .i64 (-1),.int .i64 0],fun _ _=>.nsl,RowH.new _ _ _,Nat.lt_succ_self _,Nat.le_refl _,by kernel_rfl,fun f hf=>(⟨z142 rfl 32 f 0 hf (by decide),z142 rfl 32 f 1 hf (by decide),z142 rfl 32 f 2 hf (by decide),z142 rfl 32 f 3 hf (by decide),z142 rfl 32 f 4 hf (by decide)⟩),by kernel_rfl,by kernel_rfl,fun f hf=>⟨.inl ⟨rfl,rfl⟩,.inl ⟨rfl,rfl⟩,.inl ⟨rfl,rfl⟩⟩,⟨fun _=>0,rfl,fun _ _ _ _ _ hb=>(nomatch hb)⟩,(fun _ _ _ _ _ hb=>(nomatch hb)),fun f hf=>⟨rfl,trivial,Nat.le_refl _,Nat.le_refl _⟩,hx,by decide,Nat.le_refl _,fun b hb=>Nat.le_trans (Nat.le_succ _) hb⟩,Tch.newH _ _ _ _⟩)
theorem z4a1{x:FileS}(k:FileOk x B):FileOk (synF x) B:=by
 obtain⟨k1,k2,k3,k4⟩:=k;have:=z13b x.loose x.sure;rw[←k1] at this;exact⟨rfl,trivial,by show x.seen.u.length+0≤B;omega,Nat.zero_le _⟩
theorem sync_ok{z:Int}(hn:1000000<n)(K:At lo h db s B)(hb:B<900000):Does lo db h (world n (d+3) 64 [.ptr db 0,.int .i64 z] h) (z1a3 s.p z) (z3e3 s z) (B+1):=by
 apply Does.of;have KA:=K;obtain⟨D,vs,K⟩:=K;rw[z27c];unfold zac;refine Wp.callN (z215 K z) (Wp.obind (z7 _ _) (Wp.lett ?_))
 by_cases h0:z1a3 s.p z=0
 ·obtain ⟨hp, f, rfl, hf⟩ := z3a7 h0
  have C:=K.cells f hf;have Mf:=K.mem f hf;obtain⟨o1,o2,o3,o4⟩:=K.ok f hf;have hlen:=K.len;have hdb:=K.hdb
  have es:z3e3 s (f:Int)=⟨upd s.fs f (synF (s.fs f)),z116 s.p,s.ops+1⟩:=by
   unfold z3e3;rw[if_pos h0,Int.toNat_natCast]
  rw[es,h0];refine y8 rfl (Wp.obind (zf _ _) (Wp.obind (z8 _ _ _) (Wp.obind (idxF hf) (Wp.obind (zf _ _) (Wp.obind (z8 _ _ _) (Wp.obind (zf _ _) (Wp.obind (z8 _ _ _) (Wp.obind (RowH.cell' K.row C.c4) ?_))))))))
  have dis:∀b∈z60 (vs f 2),b ∉ db::z60 (vs f 0):=fun b hb hm=>by
   rcases List.mem_cons.1 hm with rfl|hm
   ·exact K.nd hf (by decide) hb
   ·exact K.ne hf (by decide) hf (by decide) (fun h=>absurd h.2 (by decide)) b hb hm
  have dis1:∀b∈z60 (vs f 1),b ∉ db::z60 (vs f 0):=fun b hb hm=>by
   rcases List.mem_cons.1 hm with rfl|hm
   ·exact K.nd hf (by decide) hb
   ·exact K.ne hf (by decide) hf (by decide) (fun h=>absurd h.2 (by decide)) b hb hm
  obtain⟨h4,v4,e4,K4⟩:=do_ok (n:=n) (d:=d+1) (T:=z2dc) (o:=5*f+0) (x:=(s.fs f).sure) hn hdb K.row C.c0 C.c1 Mf.sure (K.nd hf (by decide)) K.ex (Mf.loose.rd dis) (by omega) o2 (by omega);refine Wp.callN e4 (Wp.obind (zf _ _) (Wp.obind (z8 _ _ _) ?_));rw[←o1] at K4;have hdb4:db<h4.next:=Nat.lt_of_lt_of_le hdb K4.tch.1;show Wp (Abs.obind (z22 h4 1 [AV.nsl] (.ptr db (5*f+4))) _) _;refine Wp.st1 K4.row (show 5*f+4<_ by rw[List.length_set,List.length_set];omega) rfl fun h7 k7 t7 n7=>?_;have T:Tch (db::z60 (vs f 0)) h h7:=K4.tch.trans' t7 fun b hb=>.inl (by rw[List.mem_singleton.1 hb];exact List.mem_cons_self);have KU:=K.upd (B':=B) (x:=synF (s.fs f)) (w:=fun k=>if k=0 then v4 else if k=1 then vs f 1 else .nsl) hf T (fun b hb=>?_) k7 (by rw[List.length_set,List.length_set,List.length_set];exact hlen) ⟨?_,?_,?_,?_,?_⟩ (fun i hi=>?_) (fun k hk b hb=>?_) (fun k l hk hl hne b hb hb'=>?_) ⟨?_,?_,?_⟩ (z4a1 (K.ok f hf)) (Nat.le_refl _)
  ·obtain ⟨h8, D8, e8, K8, t8⟩ := z29d (n := n) (d := d + 1) KU (by omega)
   refine Wp.callN e8 (Wp.ret ⟨rfl,db::z60 (vs f 0),⟨D8,_,K8⟩,T.trans' t8 fun b hb=>.inl (by rw[List.mem_singleton.1 hb];exact List.mem_cons_self),fun b hb=>?_⟩)
   rcases List.mem_cons.1 hb with hb|hb
   ·rw [hb]
    exact K.hlo
   ·exact K.low f 0 hf (by decide) b hb
  ·rcases List.mem_cons.1 hb with hb | hb
   ·exact .inl hb
   ·exact .inr ⟨0,by decide,hb⟩
  ·show (((D.set (5 * f + 0) _).set (5 * f + 0 + 1) v4).set (5 * f + 4) AV.nsl)[5 * f + 0]? = _
   rw[List.getElem?_set_ne (by omega),List.getElem?_set_ne (by omega),List.getElem?_set_self (by omega)];rfl
  ·rw [List.getElem?_set_ne (by omega), List.getElem?_set_self (by rw [List.length_set]; omega)]
   rfl
  ·rw [List.getElem?_set_ne (by omega), List.getElem?_set_ne (by omega), List.getElem?_set_ne (by omega)]
   exact C.c2
  ·rw [List.getElem?_set_ne (by omega), List.getElem?_set_ne (by omega), List.getElem?_set_ne (by omega)]
   exact C.c3
  ·rw [List.getElem?_set_self (by rw [List.length_set, List.length_set]; omega)]
   rfl
  ·rw[List.getElem?_set_ne (by omega),List.getElem?_set_ne (by omega),List.getElem?_set_ne (by omega)]
  ·rcases k with _ | _ | k
   ·exact K4.sub b hb
   ·exact .inl hb
   ·exact nomatch hb
  ·have q01 : b ∈ z60 v4 → b ∈ z60 (vs f 1) → False := fun h0 h1 => by
    rcases K4.sub b h0 with h0|h0
    ·exact dis1 b h1 (List.mem_cons_of_mem _ h0)
    ·have := K.lt hf (k := 1) (by decide) b h1
     omega
   rcases k with _|_|k<;>rcases l with _|_|l
   ·omega
   ·exact q01 hb hb'
   ·exact nomatch hb'
   ·exact q01 hb' hb
   ·omega
   ·exact nomatch hb'
   ·exact nomatch hb
   ·exact nomatch hb
   ·exact nomatch hb
  ·exact K4.buf.tch t7 fun b hb hm=>K4.ndb (List.mem_singleton.1 hm▸hb)
  ·exact Mf.seen.tch T dis1
  ·exact .inl ⟨rfl,rfl⟩
 ·have es : z3e3 s z = s := by
   unfold z3e3;rw[if_neg h0]
  rw[es];exact y9 (z1af h0) (Wp.ret ⟨rfl,[],KA.mono (by omega),Tch.refl _ _,fun _ h=>nomatch h⟩)
end
structure StpR where
 k:Int
 f:Int
 n:Int
 s:Bytes
 v:AV
def StpOk(N:Nat)(h:AHeap)(x:StpR):Prop:=I64 x.k∧I64 x.f∧I64 x.n∧x.s.length≤reachBytes∧∃zs:List Int,Slc N h 1 x.v (zs.map fun z=>[.int .i64 z])∧(∀z∈zs,I64 z)∧zs.length*8≤reachBytes
theorem StpOk.one{N:Nat}{h:AHeap}{x:StpR}(k:StpOk N h x):x.v.one=true:=by
 obtain⟨_,_,_,_,zs,hs,_⟩:=k
 rcases hs.2 with⟨_,e|e⟩|⟨b,_,_,e,_⟩<;>rw[e]<;>rfl
end Go.Proofs.Ytpnccmlajhhpdaa
