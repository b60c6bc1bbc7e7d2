/- What journalPlays_proved stands on, part 7 of 10. -/
import Derived.Test.YtbhblbffdmiepaaJP6
namespace Go.Proofs.Ytbhblbffdmiepaa
open Go.RowKit Abs
noncomputable def z16b(_:z11)(_:Nat)(h:AHeap):R:=outK (za8 h 61 (some (.agg ([.bool false,.str 0 0,.nsl,.bool false,.str 0 0,.nsl,.bool false,.str 0 0,.nsl,.bool false,.str 0 0,.nsl,.bool false,.str 0 0,.nsl,.bool false,.str 0 0,.nsl,.bool false,.str 0 0,.nsl,.bool false,.str 0 0,.nsl,.bool false,.str 0 0,.nsl,.bool false,.str 0 0,.nsl,.bool false,.str 0 0,.nsl,.bool false,.str 0 0,.nsl,.bool false,.str 0 0,.nsl,.bool false,.str 0 0,.nsl,.bool false,.str 0 0,.nsl,.bool false,.str 0 0,.nsl,.bool false,.str 0 0,.nsl,.bool false,.str 0 0,.nsl,.bool false,.str 0 0,.nsl,.bool false,.str 0 0,.nsl,.bool false,.str 0 0,.nsl,.bool false,.str 0 0,.nsl,.bool false,.str 0 0,.nsl,.bool false,.str 0 0,.nsl,.bool false,.str 0 0,.nsl,.bool false,.str 0 0,.nsl,.bool false,.str 0 0,.nsl,.bool false,.str 0 0,.nsl,.bool false,.str 0 0,.nsl,.bool false,.str 0 0,.nsl,.bool false,.str 0 0,.nsl,.bool false,.str 0 0,.nsl,.int .i64 (-1),.int .i64 0]:List AV)))) fun v2 h_3=>some (.ret (v2),h_3)
set_option maxHeartbeats 4000000 in
set_option maxRecDepth 20000 in
theorem z3be{call:z11}(_:SaysAll Try.prog call){n:Nat}{h:AHeap}{rR:ARes}{hR:AHeap}(hF:z16b call n h=some (rR,hR)):Says Try.prog 19 [] h rR hR:=by
 unfold z16b at hF;exact sO Try.func19 fun w0 m0=>wW [] (oG fun n1=>W.r (oA 0 AV.nilp (oV [] (n1 (oG fun n2=>W.r (oA 1 (.agg ([.bool false,.str 0 0,.nsl,.bool false,.str 0 0,.nsl,.bool false,.str 0 0,.nsl,.bool false,.str 0 0,.nsl,.bool false,.str 0 0,.nsl,.bool false,.str 0 0,.nsl,.bool false,.str 0 0,.nsl,.bool false,.str 0 0,.nsl,.bool false,.str 0 0,.nsl,.bool false,.str 0 0,.nsl,.bool false,.str 0 0,.nsl,.bool false,.str 0 0,.nsl,.bool false,.str 0 0,.nsl,.bool false,.str 0 0,.nsl,.bool false,.str 0 0,.nsl,.bool false,.str 0 0,.nsl,.bool false,.str 0 0,.nsl,.bool false,.str 0 0,.nsl,.bool false,.str 0 0,.nsl,.bool false,.str 0 0,.nsl,.bool false,.str 0 0,.nsl,.bool false,.str 0 0,.nsl,.bool false,.str 0 0,.nsl,.bool false,.str 0 0,.nsl,.bool false,.str 0 0,.nsl,.bool false,.str 0 0,.nsl,.bool false,.str 0 0,.nsl,.bool false,.str 0 0,.nsl,.bool false,.str 0 0,.nsl,.bool false,.str 0 0,.nsl,.bool false,.str 0 0,.nsl,.bool false,.str 0 0,.nsl,.int .i64 (-1),.int .i64 0]:List AV)) (oK 2 hF fun v2 h_3 hF=>oA 0 v2 (oV [(0,v2)] (n2 (oY (lZ hF [.tmp 0] [v2] (rT zd))))))))))))
noncomputable def z78(call:z11)(_:Nat)(t0:AV)(t1:Int)(t2:List AV)(h:AHeap):R:=outK (za8 h 67 (some (.agg t2))) fun v5 h_2=>callN (call 49 [t0,.int .i64 t1] h_2) fun r12 h_5=>obind (z104 r12) fun t12=>lett (newH h_5 55 [.bool false,.str 0 0]) fun h_8=>obind (z22 h_8 2 t12 (z1a h_5)) fun h_10=>obind (z21 0 v5) fun t14=>obind (ze h_10 t14) fun v15=>obind (z16 .i64 v15) fun t15=>lett ((t15:Int) == 1) fun (t16:Bool)=>lett (fun (t8:Int) (h_21:AHeap)=>callN (call 50 [t0,.int .i64 t1,.int .i64 t8] h_21) fun r49 h_23=>obind (z16 .i64 r49) fun t49=>lett ((t49:Int) == 0) fun (t51:Bool)=>lett (fun (h_30:AHeap)=>some (.ret (.int .i64 t49),h_30)) fun k29=>ifB t51 (obind (z39 t0) fun t55=>obind (z21 0 t55) fun t56=>obind (z19c 32 3 t56 t1) fun t57=>obind (z21 2 t57) fun t58=>obind (ze h_23 t58) fun v59=>outK (z34 Try.prog h_23 56 56 AV.nsl v59) fun v60 h_39=>obind (z28 h_39 3 v5) fun t64=>obind (z39 t0) fun t67=>obind (z21 0 t67) fun t68=>outK (z183 Try.prog h_39 56 1 [(0,.agg t64)]) fun v65 h_44=>outK (z34 Try.prog h_44 56 56 v60 v65) fun v66 h_46=>obind (z19c 32 3 t68 t1) fun t69=>obind (z21 2 t69) fun t70=>obind (z22 h_46 1 (AV.cells v66) t70) fun h_50=>k29 h_50) (k29 h_23)) fun k20=>ifB t16 (obind (z21 1 v5) fun t17=>obind (ze h_10 t17) fun v18=>obind (z2c v18) fun t18=>obind (ze h_10 (AV.ptr (AHeap.next h_5) 1)) fun v21=>obind (z2c v21) fun t21=>lett (IntKind.i64.wrap (1048576 - (z65 t21))) fun (t23:Int)=>lett (decide ((z65 t18)>t23)) fun (t24:Bool)=>lett (fun (t8_61:Int) (h_62:AHeap)=>k20 t8_61 h_62) fun k60=>ifB t24 (k60 8 h_10) (k60 0 h_10)) (obind (ze h_10 (AV.ptr (AHeap.next h_5) 0)) fun v27=>obind (z33 v27) fun t27=>lett (!t27) fun (t28:Bool)=>lett (fun (t8_68:Int) (h_69:AHeap)=>k20 t8_68 h_69) fun k67=>ifB t28 (k67 4 h_10) (obind (z21 0 v5) fun t30=>obind (ze h_10 t30) fun v31=>obind (z16 .i64 v31) fun t31=>lett ((t31:Int) == 2) fun (t32:Bool)=>lett (fun (t45:Bool) (h_75:AHeap)=>lett (fun (t8_79:Int) (h_80:AHeap)=>k67 t8_79 h_80) fun k78=>ifB t45 (k78 5 h_75) (k78 0 h_75)) fun j45=>ifB t32 (obind (z21 2 v5) fun t34=>obind (ze h_10 t34) fun v35=>obind (z16 .i64 v35) fun t35=>lett (decide (t35<0)) fun (t36:Bool)=>lett (fun (t44:Bool) (h_85:AHeap)=>j45 t44 h_85) fun j44=>ifB t36 (j44 true h_10) (obind (z21 2 v5) fun t38=>obind (ze h_10 t38) fun v39=>obind (z16 .i64 v39) fun t39=>obind (ze h_10 (AV.ptr (AHeap.next h_5) 1)) fun v41=>obind (z2c v41) fun t41=>lett (decide (t39>(z65 t41))) fun (t43:Bool)=>j44 t43 h_10)) (j45 false h_10)))
set_option maxHeartbeats 4000000 in
set_option maxRecDepth 20000 in
theorem z1fc{call:z11}(hc:SaysAll Try.prog call){n:Nat}{t0:AV}{t1:Int}{t2:List AV}{h:AHeap}{rR:ARes}{hR:AHeap}(hF:z78 call n t0 t1 t2 h=some (rR,hR)):Says Try.prog 24 [t0,.int .i64 t1,.agg t2] h rR hR:=by
 unfold z78 at hF;refine sO Try.func24 fun w0 m0=>wW [(0,t0),(1,.int .i64 t1),(2,.agg t2)] (oG fun n1=>W.r (oK 5 hF fun v5 h_2 hF=>oA 6 (.int .i64 0) (oV [(0,t0),(1,.int .i64 t1),(5,v5)] (n1 (oG fun n4=>W.r (oA 10 t0 (oA 11 (.int .i64 t1) (oCa hc 12 hF fun t12 h_5 hF=>oN 7 hF fun h_8 hF=>oW 55 (.agg t12) hF fun h_10 hF=>oV [(0,t0),(1,.int .i64 t1),(5,v5),(7,(z1a h_5))] (n4 (oG fun n12=>W.r (oA 8 (.int .i64 0) (oV [(0,t0),(1,.int .i64 t1),(5,v5),(7,(z1a h_5)),(8,.int .i64 0)] (n12 (oG fun n13=>W.blockK (by kernel_rfl) (fun K14 n14 s14 o14 q14 p14=>oG fun n15=>W.r (oF 14 67 0 hF fun t14 hF=>oLi 15 3 hF fun t15 hF=>oB 16 hF fun t16 hF=>oA 13 (.bool t16) (oV [(0,t0),(1,.int .i64 t1),(5,v5),(7,(z1a h_5)),(8,.int .i64 0),(13,.bool t16)] (n15 ?_))))))))))))))))));obtain⟨k20,e20,hF⟩:=z9 hF
 have J20:∀(t8:Int) (h_21:AHeap),k20 t8 h_21=some (rR,hR)→Go w0 m0 (Func.ntmps Try.f24) (K14 .normal) [(0,t0),(1,.int .i64 t1),(5,v5),(8,.int .i64 t8)] [] h_21:=by
  intro t8 h_21 hF;rw[e20] at hF;refine n14 (n13 (oG fun n22=>W.r (oA 46 t0 (oA 47 (.int .i64 t1) (oA 48 (.int .i64 t8) (oCi hc 49 hF fun t49 h_23 hF=>oA 8 (.int .i64 t49) (oV [(0,t0),(1,.int .i64 t1),(5,v5),(8,.int .i64 t49)] (n22 (W.s (fun K26 n26 e26 q26 p26=>oG fun n27=>W.r (oA 50 (.int .i64 t49) (oB 51 hF fun t51 hF=>oV [(0,t0),(1,.int .i64 t1),(5,v5),(8,.int .i64 t49),(51,.bool t51)] (n27 ?_)))))))))))));obtain⟨k29,e29,hF⟩:=z9 hF
  have J29:∀(h_30:AHeap),k29 h_30=some (rR,hR)→Go w0 m0 (Func.ntmps Try.f24) (K26 .normal) [(8,.int .i64 t49)] [] h_30:=by
   intro h_30 hF;rw[e29] at hF;exact n26 (oG fun n31=>W.r (oA 71 (.int .i64 t49) (oA 6 (.int .i64 t49) (oV [(6,.int .i64 t49)] (n31 (oY (lZ hF [.tmp 6] [.int .i64 t49] (rT zd))))))))
  cases t51 with
  |true=>
   refine oT hF fun hF=>oG fun n32=>W.r (oA 9 AV.nsl (oV [(0,t0),(1,.int .i64 t1),(5,v5),(8,.int .i64 t49),(9,AV.nsl)] (n32 (oG fun n33=>W.r (oA 52 AV.nsl (oA 53 t0 (oA 54 (.int .i64 t1) (oC0 55 hF fun t55 hF=>oF 56 61 0 hF fun t56 hF=>oQ 57 59 58 .i64 hF fun t57 hF=>oF 58 58 1 hF fun t58 hF=>oL 59 56 hF fun v59 hF=>oK 60 hF fun v60 h_39 hF=>oA 9 v60 (oV [(0,t0),(1,.int .i64 t1),(5,v5),(8,.int .i64 t49),(9,v60)] (n33 (y14 (by kernel_rfl) (hc.ok w0) (plan:=[0,1,2,3,6,7,4,5,8,9,10]) (by kernel_rfl) (by kernel_rfl) (by kernel_rfl) (WD.a 0 (some 61) t0 h_39 (WD.a 0 (some 62) (.int .i64 t1) h_39 (WD.a 0 (some 63) v60 h_39 ?_))))))))))))));obtain⟨t64,e41,hF⟩:=z3 hF;refine WD.b 1 (some 64) (.agg t64) h_39 (z35 (P:=Try.prog) (h:=h_39) (t:=67) (by kernel_rfl) (by kernel_rfl) e41) ?_;obtain⟨t67,e42,hF⟩:=z3 hF;refine WD.b 0 (some 67) t67 h_39 (z24 (h:=h_39) e42) ?_;obtain⟨t68,e43,hF⟩:=z3 hF;refine WD.b 0 (some 68) t68 h_39 (z15 (P:=Try.prog) (h:=h_39) (s:=61) (f:=0) (by kernel_rfl) e43) ?_;obtain⟨v65,h_44,e45,hF⟩:=z1e hF;refine WD.val (d:=(some 65)) (v:=v65) (h':=h_44) (by kernel_rfl) (by kernel_rfl) (Eq.trans (by kernel_rfl) e45) (k:=2) (by kernel_rfl) (fun _=>(by kernel_rfl)) (by decide) ?_;obtain⟨v66,h_46,e47,hF⟩:=z1e hF;refine WD.val (d:=(some 66)) (v:=v66) (h':=h_46) (by kernel_rfl) (by kernel_rfl) (Eq.trans (by kernel_rfl) e47) (k:=2) (by kernel_rfl) (fun _=>(by kernel_rfl)) (by decide) ?_;obtain⟨t69,e48,hF⟩:=z3 hF;refine WD.b 0 (some 69) t69 h_46 (zbb (P:=Try.prog) (h:=h_46) (t:=59) (e':=58) (k:=.i64) (by kernel_rfl) (by kernel_rfl) (by kernel_rfl) e48) ?_;obtain⟨t70,e49,hF⟩:=z3 hF;refine WD.b 0 (some 70) t70 h_46 (z15 (P:=Try.prog) (h:=h_46) (s:=58) (f:=1) (by kernel_rfl) e49) ?_;obtain⟨h_50,e51,hF⟩:=z3 hF;exact WD.eff (h':=h_50) (by kernel_rfl) (by kernel_rfl) (Eq.trans (by kernel_rfl) (z3b (P:=Try.prog) (h:=h_46) (t:=56) (v:=v66) (by kernel_rfl) (by kernel_rfl) e51)) (k:=2) (by kernel_rfl) (fun _=>(by kernel_rfl)) (by decide) (WD.nil (gW [(8,.int .i64 t49)] (gW _ (J29 _ hF))))
  |false=>
   exact oU hF fun hF=>oZ (gW _ (J29 _ hF))
 cases t16 with
 |true=>
  refine oT hF fun hF=>oG fun n52=>W.r (oF 17 67 1 hF fun t17 hF=>oLs 18 9 hF fun t18 hF=>oA 19 (.int .i64 (z65 t18)) (oA 20 (AV.ptr (AHeap.next h_5) 1) (oLs 21 9 hF fun t21 hF=>oA 22 (.int .i64 (z65 t21)) (oI 23 .i64 hF fun t23 hF=>oB 24 hF fun t24 hF=>oV [(0,t0),(1,.int .i64 t1),(5,v5),(8,.int .i64 0),(24,.bool t24)] (n52 ?_)))));obtain⟨k60,e60,hF⟩:=z9 hF
  have J60:∀(t8_61:Int) (h_62:AHeap),k60 t8_61 h_62=some (rR,hR)→Go w0 m0 (Func.ntmps Try.f24) (K14 .normal) [(0,t0),(1,.int .i64 t1),(5,v5),(8,.int .i64 t8_61)] [] h_62:=by
   intro t8_61 h_62 hF;rw[e60] at hF;exact gW _ (J20 _ _ hF)
  cases t24 with
  |true=>
   exact oT hF fun hF=>W.r (oA 8 (.int .i64 8) (oV [(0,t0),(1,.int .i64 t1),(5,v5),(8,.int .i64 8)] (gW _ (J60 _ _ hF))))
  |false=>
   exact oU hF fun hF=>oZ (gW _ (J60 _ _ hF))
 |false=>
  refine oU hF fun hF=>oG fun n63=>W.r (oA 26 (AV.ptr (AHeap.next h_5) 0) (oLb 27 4 hF fun t27 hF=>oB 28 hF fun t28 hF=>oA 25 (.bool t28) (oV [(0,t0),(1,.int .i64 t1),(5,v5),(7,(z1a h_5)),(8,.int .i64 0),(25,.bool t28)] (n63 ?_))));obtain⟨k67,e67,hF⟩:=z9 hF
  have J67:∀(t8_68:Int) (h_69:AHeap),k67 t8_68 h_69=some (rR,hR)→Go w0 m0 (Func.ntmps Try.f24) (K14 .normal) [(0,t0),(1,.int .i64 t1),(5,v5),(8,.int .i64 t8_68)] [] h_69:=by
   intro t8_68 h_69 hF;rw[e67] at hF;exact gW _ (J20 _ _ hF)
  cases t28 with
  |true=>
   exact oT hF fun hF=>W.r (oA 8 (.int .i64 4) (oV [(0,t0),(1,.int .i64 t1),(5,v5),(8,.int .i64 4)] (gW _ (J67 _ _ hF))))
  |false=>
   refine oU hF fun hF=>W.s (fun K70 n70 e70 q70 p70=>W.r (oF 30 67 0 hF fun t30 hF=>oLi 31 3 hF fun t31 hF=>oB 32 hF fun t32 hF=>oA 33 (.bool t32) ?_));obtain⟨j45,e76,hF⟩:=z9 hF
   have J77:∀(t45:Bool) (h_75:AHeap),j45 t45 h_75=some (rR,hR)→WL Try.prog w0 m0 (Func.ntmps Try.f24) (Code.ops (y7 (y6 (y6 (y6 (y6 (y7 (y7 (y6 (y6 (y6 (z32 Try.f24)))))))))))) 16 K70 [(0,t0),(1,.int .i64 t1),(5,v5),(8,.int .i64 0),(45,.bool t45)] [] h_75:=by
    intro t45 h_75 hF;rw[e76] at hF;refine oA 29 (.bool t45) (oV [(0,t0),(1,.int .i64 t1),(5,v5),(8,.int .i64 0),(29,.bool t45)] (n70 ?_));obtain⟨k78,e78,hF⟩:=z9 hF
    have J78:∀(t8_79:Int) (h_80:AHeap),k78 t8_79 h_80=some (rR,hR)→Go w0 m0 (Func.ntmps Try.f24) (K14 .normal) [(0,t0),(1,.int .i64 t1),(5,v5),(8,.int .i64 t8_79)] [] h_80:=by
     intro t8_79 h_80 hF;rw[e78] at hF;exact gW _ (J67 _ _ hF)
    cases t45 with
    |true=>
     exact oT hF fun hF=>W.r (oA 8 (.int .i64 5) (oV [(0,t0),(1,.int .i64 t1),(5,v5),(8,.int .i64 5)] (gW _ (J78 _ _ hF))))
    |false=>
     exact oU hF fun hF=>oZ (gW _ (J78 _ _ hF))
   cases t32 with
   |true=>
    replace hF:=z55 hF
    refine oF 34 67 2 hF fun t34 hF=>oLi 35 3 hF fun t35 hF=>oB 36 hF fun t36 hF=>oA 37 (.bool t36) ?_;obtain⟨j44,e86,hF⟩:=z9 hF
    have J87:∀(t44:Bool) (h_85:AHeap),j44 t44 h_85=some (rR,hR)→WL Try.prog w0 m0 (Func.ntmps Try.f24) (Code.ops (y7 (y6 (y6 (y6 (y6 (y7 (y7 (y6 (y6 (y6 (z32 Try.f24)))))))))))) 15 K70 [(0,t0),(1,.int .i64 t1),(5,v5),(8,.int .i64 0),(33,.bool true),(44,.bool t44)] [] h_85:=by
     intro t44 h_85 hF;rw[e86] at hF;exact oA 45 (.bool t44) (lW _ (J77 _ _ hF))
    cases t36 with
    |true=>
     replace hF:=z55 hF
     exact WL.o (some 38) (WL.o (some 39) (WL.o (some 40) (WL.o (some 41) (WL.o (some 42) (WL.o (some 43) (oA 44 (.bool true) (lW _ (J87 _ _ hF))))))))
    |false=>
     replace hF:=z56 hF
     exact oF 38 67 2 hF fun t38 hF=>oLi 39 3 hF fun t39 hF=>oA 40 (AV.ptr (AHeap.next h_5) 1) (oLs 41 9 hF fun t41 hF=>oA 42 (.int .i64 (z65 t41)) (oB 43 hF fun t43 hF=>oA 44 (.bool t43) (lW _ (J87 _ _ hF))))
   |false=>
    replace hF:=z56 hF
    exact WL.o (some 34) (WL.o (some 35) (WL.o (some 36) (WL.o (some 37) (WL.o (some 38) (WL.o (some 39) (WL.o (some 40) (WL.o (some 41) (WL.o (some 42) (WL.o (some 43) (WL.o (some 44) (oA 45 (.bool false) (lW _ (J77 _ _ hF)))))))))))))
noncomputable def za4(call:z11)(_:Nat)(t0:AV)(t1:Int)(h:AHeap):R:=callN (call 50 [t0,.int .i64 t1,.int .i64 0] h) fun r8 h_3=>obind (z16 .i64 r8) fun t8=>lett ((t8:Int) == 0) fun (t10:Bool)=>lett (fun (h_10:AHeap)=>some (.ret (.int .i64 t8),h_10)) fun k9=>ifB t10 (obind (z39 t0) fun t15=>obind (z21 0 t15) fun t16=>obind (z19c 32 3 t16 t1) fun t17=>obind (z28 h_3 3 t17) fun t18=>obind (z39 t0) fun t21=>obind (z21 0 t21) fun t22=>callN (call 68 [.agg t18] h_3) fun r19 h_18=>obind (z104 r19) fun t19=>obind (z392 Try.prog 58 [(0,.agg t19)]) fun t20=>obind (z19c 32 3 t22 t1) fun t23=>obind (z22 h_18 3 t20 t23) fun h_23=>k9 h_23) (k9 h_3)
set_option maxHeartbeats 4000000 in
set_option maxRecDepth 20000 in
theorem z241{call:z11}(hc:SaysAll Try.prog call){n:Nat}{t0:AV}{t1:Int}{h:AHeap}{rR:ARes}{hR:AHeap}(hF:za4 call n t0 t1 h=some (rR,hR)):Says Try.prog 45 [t0,.int .i64 t1] h rR hR:=by
 unfold za4 at hF;refine sO Try.func45 fun w0 m0=>wW [(0,t0),(1,.int .i64 t1)] (oG fun n1=>W.r (oA 4 (.int .i64 0) (oV [(0,t0),(1,.int .i64 t1)] (n1 (oG fun n2=>W.r (oA 6 t0 (oA 7 (.int .i64 t1) (oCi hc 8 hF fun t8 h_3 hF=>oA 5 (.int .i64 t8) (oV [(0,t0),(1,.int .i64 t1),(5,.int .i64 t8)] (n2 (W.s (fun K6 n6 e6 q6 p6=>oG fun n7=>W.r (oA 9 (.int .i64 t8) (oB 10 hF fun t10 hF=>oV [(0,t0),(1,.int .i64 t1),(5,.int .i64 t8),(10,.bool t10)] (n7 ?_)))))))))))))));obtain⟨k9,e9,hF⟩:=z9 hF
 have J9:∀(h_10:AHeap),k9 h_10=some (rR,hR)→Go w0 m0 (Func.ntmps Try.f45) (K6 .normal) [(5,.int .i64 t8)] [] h_10:=by
  intro h_10 hF;rw[e9] at hF;exact n6 (oG fun n11=>W.r (oA 24 (.int .i64 t8) (oA 4 (.int .i64 t8) (oV [(4,.int .i64 t8)] (n11 (oY (lZ hF [.tmp 4] [.int .i64 t8] (rT zd))))))))
 cases t10 with
 |true=>
  refine oT hF fun hF=>y14 (by kernel_rfl) (hc.ok w0) (plan:=[0,1,2,3,4,5,6,7,10,11,8,9,12,13]) (by kernel_rfl) (by kernel_rfl) (by kernel_rfl) (WD.a 0 (some 11) t0 h_3 (WD.a 0 (some 12) (.int .i64 t1) h_3 (WD.a 0 (some 13) t0 h_3 (WD.a 0 (some 14) (.int .i64 t1) h_3 ?_))));obtain⟨t15,e12,hF⟩:=z3 hF;refine WD.b 0 (some 15) t15 h_3 (z24 (h:=h_3) e12) ?_;obtain⟨t16,e13,hF⟩:=z3 hF;refine WD.b 0 (some 16) t16 h_3 (z15 (P:=Try.prog) (h:=h_3) (s:=61) (f:=0) (by kernel_rfl) e13) ?_;obtain⟨t17,e14,hF⟩:=z3 hF;refine WD.b 0 (some 17) t17 h_3 (zbb (P:=Try.prog) (h:=h_3) (t:=59) (e':=58) (k:=.i64) (by kernel_rfl) (by kernel_rfl) (by kernel_rfl) e14) ?_;obtain⟨t18,e15,hF⟩:=z3 hF;refine WD.b 1 (some 18) (.agg t18) h_3 (z35 (P:=Try.prog) (h:=h_3) (t:=58) (by kernel_rfl) (by kernel_rfl) e15) ?_;obtain⟨t21,e16,hF⟩:=z3 hF;refine WD.b 0 (some 21) t21 h_3 (z24 (h:=h_3) e16) ?_;obtain⟨t22,e17,hF⟩:=z3 hF;refine WD.b 0 (some 22) t22 h_3 (z15 (P:=Try.prog) (h:=h_3) (s:=61) (f:=0) (by kernel_rfl) e17) ?_
  replace hF:=z1b hF;obtain⟨r19,h_18,e19,hF⟩:=hF
  replace hF:=z3 hF;obtain⟨t19,c20,hF⟩:=hF
  have c20:=z7c c20;subst c20;refine WD.call (d:=(some 19)) (by kernel_rfl) (by kernel_rfl) (by kernel_rfl) e19 (k:=2) (by kernel_rfl) (fun _=>(by kernel_rfl)) (by decide) ?_;obtain⟨t20,e21,hF⟩:=z3 hF;refine WD.val (d:=(some 20)) (v:=.agg t20) (h':=h_18) (by kernel_rfl) (by kernel_rfl) (z262 (by kernel_rfl) e21) (k:=0) (by kernel_rfl) (fun e=>absurd e (by decide)) (by decide) ?_;obtain⟨t23,e22,hF⟩:=z3 hF;refine WD.b 0 (some 23) t23 h_18 (zbb (P:=Try.prog) (h:=h_18) (t:=59) (e':=58) (k:=.i64) (by kernel_rfl) (by kernel_rfl) (by kernel_rfl) e22) ?_;obtain⟨h_23,e24,hF⟩:=z3 hF;exact WD.eff (h':=h_23) (by kernel_rfl) (by kernel_rfl) (Eq.trans (by kernel_rfl) (z3b (P:=Try.prog) (h:=h_18) (t:=58) (v:=(.agg t20)) (by kernel_rfl) (by kernel_rfl) e24)) (k:=2) (by kernel_rfl) (fun _=>(by kernel_rfl)) (by decide) (WD.nil (gW [(5,.int .i64 t8)] (gW _ (J9 _ hF))))
 |false=>
  exact oU hF fun hF=>oZ (gW _ (J9 _ hF))
noncomputable def z6d(call:z11)(h_11:AHeap)(v29:AV)(t9_48:Int)(k53:AHeap→R)(self:Int→AHeap→R)(t10:Int)(h_117:AHeap):R:=lett (decide (t10<t9_48)) fun (t53:Bool)=>ifB t53 (obind (z28 h_117 2 (z1a h_11)) fun t56=>obind (z17a 3 v29 t10) fun t59=>obind (z28 h_117 3 t59) fun t60=>callN (call 51 [.agg t56,.agg t60] h_117) fun r61 h_126=>obind (z104 r61) fun t61=>obind (z22 h_126 2 t61 (z1a h_11)) fun h_129=>lett (IntKind.i64.wrap (t10+1)) fun (t55:Int)=>self t55 h_129) (k53 h_117)
noncomputable def z60(call:z11)(h_11:AHeap)(v29:AV)(t9_48:Int)(k53:AHeap→R):Nat→Int→AHeap→R:=z143 (fun _ _=>none) (z6d call h_11 v29 t9_48 k53)
theorem zd1(call:z11)(h_11:AHeap)(v29:AV)(t9_48:Int)(k53:AHeap→R)(m:Nat):z60 call h_11 v29 t9_48 k53 (m+1)=z6d call h_11 v29 t9_48 k53 (z60 call h_11 v29 t9_48 k53 m):=rfl
noncomputable def z6e(call:z11)(n:Nat)(t0:AV)(t1:AV)(t2:Int)(k4:AHeap→R)(self:Int→AHeap→R)(t6:Int)(h_11:AHeap):R:=lett (decide (t6<32)) fun (t13:Bool)=>ifB t13 (obind (z39 t0) fun t18=>obind (z21 0 t18) fun t19=>obind (z19c 32 3 t19 t6) fun t20=>obind (z21 0 t20) fun t21=>obind (z28 h_11 2 t21) fun t22=>lett (newH h_11 55 [.bool false,.str 0 0]) fun h_23=>obind (z22 h_23 2 t22 (z1a h_11)) fun h_25=>obind (z39 t0) fun t25=>obind (z21 0 t25) fun t26=>obind (z19c 32 3 t26 t6) fun t27=>obind (z21 2 t27) fun t28=>obind (ze h_25 t28) fun v29=>obind (z18e t1) fun t32=>lett (decide (t6<t32)) fun (t33:Bool)=>lett (fun (t40:Bool) (h_38:AHeap)=>lett (fun (t9:Int) (h_42:AHeap)=>obind (z18e v29) fun t47=>lett (decide (t9>t47)) fun (t48:Bool)=>lett (fun (t9_48:Int) (h_49:AHeap)=>lett (fun (h_54:AHeap)=>obind (z18e v29) fun t64=>lett (decide (t9_48<t64)) fun (t65:Bool)=>lett (fun (t73:Bool) (h_59:AHeap)=>lett (fun (t82:Bool) (h_62:AHeap)=>lett (fun (t86:Bool) (h_65:AHeap)=>lett (fun (h_69:AHeap)=>obind (z28 h_69 2 (z1a h_11)) fun t116=>obind (z392 Try.prog 58 [(0,.agg t116)]) fun t117=>obind (z39 t0) fun t118=>obind (z21 0 t118) fun t119=>obind (z19c 32 3 t119 t6) fun t120=>obind (z22 h_69 3 t117 t120) fun h_75=>lett (IntKind.i64.wrap (t6+1)) fun (t15:Int)=>self t15 h_75) fun k68=>ifB t86 (obind (z17a 3 v29 t9_48) fun t91=>obind (z21 1 t91) fun t92=>obind (ze h_65 t92) fun v93=>obind (z2c v93) fun t93=>lett (IntKind.i64.wrap ((z65 t93) - 1)) fun (t95:Int)=>lett (decide (t2>t95)) fun (t96:Bool)=>lett (fun (t11:Int) (h_88:AHeap)=>obind (z28 h_88 2 (z1a h_11)) fun t104=>obind (z17a 3 v29 t9_48) fun t107=>obind (z21 1 t107) fun t108=>obind (ze h_88 t108) fun v109=>obind (z2c v109) fun t109=>obind (z6c t109 0 t11) fun t111=>callN (call 51 [.agg t104,.agg ([.int .i64 1,zc t111,.int .i64 0]:List AV)] h_88) fun r113 h_95=>obind (z104 r113) fun t113=>obind (z22 h_95 2 t113 (z1a h_11)) fun h_98=>k68 h_98) fun k87=>ifB t96 (obind (z17a 3 v29 t9_48) fun t99=>obind (z21 1 t99) fun t100=>obind (ze h_65 t100) fun v101=>obind (z2c v101) fun t101=>lett (IntKind.i64.wrap ((z65 t101) - 1)) fun (t103:Int)=>k87 t103 h_65) (k87 t2 h_65)) (k68 h_65)) fun j86=>ifB t82 (lett (decide (t2>0)) fun (t85:Bool)=>j86 t85 h_62) (j86 false h_62)) fun j82=>ifB t73 (obind (z17a 3 v29 t9_48) fun t77=>obind (z21 1 t77) fun t78=>obind (ze h_59 t78) fun v79=>obind (z2c v79) fun t79=>lett (decide ((z65 t79)>0)) fun (t81:Bool)=>j82 t81 h_59) (j82 false h_59)) fun j73=>ifB t65 (obind (z17a 3 v29 t9_48) fun t69=>obind (z21 0 t69) fun t70=>obind (ze h_54 t70) fun v71=>obind (z16 .i64 v71) fun t71=>lett ((t71:Int) == 1) fun (t72:Bool)=>j73 t72 h_54) (j73 false h_54)) fun k53=>z60 call h_11 v29 t9_48 k53 n 0 h_49) fun k47=>ifB t48 (obind (z18e v29) fun t50=>k47 t50 h_42) (k47 t9 h_42)) fun k41=>ifB t40 (obind (z17a 1 t1 t6) fun t43=>obind (ze h_38 t43) fun v44=>obind (z16 .i64 v44) fun t44=>k41 t44 h_38) (k41 0 h_38)) fun j40=>ifB t33 (obind (z17a 1 t1 t6) fun t37=>obind (ze h_25 t37) fun v38=>obind (z16 .i64 v38) fun t38=>lett (decide (t38>0)) fun (t39:Bool)=>j40 t39 h_25) (j40 false h_25)) (k4 h_11)
noncomputable def z4e(call:z11)(n:Nat)(t0:AV)(t1:AV)(t2:Int)(k4:AHeap→R):Nat→Int→AHeap→R:=z143 (fun _ _=>none) (z6e call n t0 t1 t2 k4)
theorem zd2(call:z11)(n:Nat)(t0:AV)(t1:AV)(t2:Int)(k4:AHeap→R)(m:Nat):z4e call n t0 t1 t2 k4 (m+1)=z6e call n t0 t1 t2 k4 (z4e call n t0 t1 t2 k4 m):=rfl
noncomputable def z8d(call:z11)(n:Nat)(t0:AV)(t1:AV)(t2:Int)(h:AHeap):R:=lett (fun (h_5:AHeap)=>obind (z39 t0) fun t122=>obind (z21 96 t122) fun t123=>obind (z22 h_5 1 [.int .i64 (-1)] t123) fun h_8=>some (.ret (.tup []),h_8)) fun k4=>z4e call n t0 t1 t2 k4 n 0 h
set_option maxHeartbeats 4000000 in
set_option maxRecDepth 20000 in
theorem z218{call:z11}(hc:SaysAll Try.prog call){n:Nat}{t0:AV}{t1:AV}{t2:Int}{h:AHeap}{rR:ARes}{hR:AHeap}(hF:z8d call n t0 t1 t2 h=some (rR,hR)):Says Try.prog 25 [t0,t1,.int .i64 t2] h rR hR:=by
 unfold z8d at hF;refine sO Try.func25 fun w0 m0=>wW [(0,t0),(1,t1),(2,.int .i64 t2)] (W.s (fun K1 n1 e1 q1 p1=>oG fun n2=>W.r (oA 6 (.int .i64 0) (oV [(0,t0),(1,t1),(2,.int .i64 t2),(6,.int .i64 0)] (n2 ?_)))));obtain⟨k4,e4,hF⟩:=z9 hF
 have J4:∀(h_5:AHeap),k4 h_5=some (rR,hR)→Go w0 m0 (Func.ntmps Try.f25) (K1 .normal) [(0,t0)] [] h_5:=by
  intro h_5 hF;rw[e4] at hF;exact n1 (W.r (oA 121 t0 (oC0 122 hF fun t122 hF=>oF 123 61 1 hF fun t123 hF=>oW 3 (.int .i64 (-1)) hF fun h_8 hF=>oV [] (lY hF [] [] zd))))
 refine W.blockK (by kernel_rfl) (fun K3 n3 s3 o3 q3 p3=>W.loopK (by kernel_rfl) (fun I10 K10 b10 n10 e10 q10 p10=>?_))
 have L10:∀(m:Nat) (t6:Int) (h_11:AHeap),z4e call n t0 t1 t2 k4 m t6 h_11=some (rR,hR)→Go w0 m0 (Func.ntmps Try.f25) I10 [(0,t0),(1,t1),(2,.int .i64 t2),(6,.int .i64 t6)] [] h_11:=by
  intro m
  induction m with
  |zero=>intro t6 h_11 hF;cases hF
  |succ m ih10=>
   intro t6 h_11 hF;rw[zd2] at hF;unfold z6e at hF;refine b10 (W.s (fun K12 n12 e12 q12 p12=>oG fun n13=>W.r (oA 12 (.int .i64 t6) (oB 13 hF fun t13 hF=>oV [(0,t0),(1,t1),(2,.int .i64 t2),(6,.int .i64 t6),(13,.bool t13)] (n13 ?_)))))
   cases t13 with
   |true=>
    refine oT hF fun hF=>oZ (n12 (oG fun n15=>W.blockK (by kernel_rfl) (fun K16 n16 s16 o16 q16 p16=>oG fun n17=>W.r (oA 16 t0 (oA 17 (.int .i64 t6) (oC0 18 hF fun t18 hF=>oF 19 61 0 hF fun t19 hF=>oQ 20 59 58 .i64 hF fun t20 hF=>oF 21 58 0 hF fun t21 hF=>oR 22 55 hF fun t22 hF=>oN 7 hF fun h_23 hF=>oW 55 (.agg t22) hF fun h_25 hF=>oV [(0,t0),(1,t1),(2,.int .i64 t2),(6,.int .i64 t6),(7,(z1a h_11))] (n17 (oG fun n27=>W.r (oA 23 t0 (oA 24 (.int .i64 t6) (oC0 25 hF fun t25 hF=>oF 26 61 0 hF fun t26 hF=>oQ 27 59 58 .i64 hF fun t27 hF=>oF 28 58 1 hF fun t28 hF=>oL 29 56 hF fun v29 hF=>oA 8 v29 (oV [(0,t0),(1,t1),(2,.int .i64 t2),(6,.int .i64 t6),(7,(z1a h_11)),(8,v29)] (n27 (oG fun n33=>W.r (oA 9 (.int .i64 0) (oV [(0,t0),(1,t1),(2,.int .i64 t2),(6,.int .i64 t6),(7,(z1a h_11)),(8,v29),(9,.int .i64 0)] (n33 (W.s (fun K34 n34 e34 q34 p34=>W.s (fun K35 n35 e35 q35 p35=>W.r (oA 30 (.int .i64 t6) (oA 31 t1 (oM 32 63 3 hF fun t32 hF=>oB 33 hF fun t33 hF=>oA 34 (.bool t33) ?_)))))))))))))))))))))));obtain⟨j40,e39,hF⟩:=z9 hF
    have J40:∀(t40:Bool) (h_38:AHeap),j40 t40 h_38=some (rR,hR)→WL Try.prog w0 m0 (Func.ntmps Try.f25) (Code.ops (y7 (y7 (y6 (y6 (y6 (y7 (y7 (y6 (y7 (y7 (y6 (y7 (z32 Try.f25)))))))))))))) 11 K35 [(0,t0),(1,t1),(2,.int .i64 t2),(6,.int .i64 t6),(7,(z1a h_11)),(8,v29),(9,.int .i64 0),(40,.bool t40)] [] h_38:=by
     intro t40 h_38 hF;rw[e39] at hF;refine oV [(0,t0),(1,t1),(2,.int .i64 t2),(6,.int .i64 t6),(7,(z1a h_11)),(8,v29),(9,.int .i64 0),(40,.bool t40)] (n35 ?_);obtain⟨k41,e41,hF⟩:=z9 hF
     have J41:∀(t9:Int) (h_42:AHeap),k41 t9 h_42=some (rR,hR)→Go w0 m0 (Func.ntmps Try.f25) (K34 .normal) [(0,t0),(1,t1),(2,.int .i64 t2),(6,.int .i64 t6),(7,(z1a h_11)),(8,v29),(9,.int .i64 t9)] [] h_42:=by
      intro t9 h_42 hF;rw[e41] at hF;refine n34 (W.s (fun K43 n43 e43 q43 p43=>oG fun n44=>W.r (oA 45 (.int .i64 t9) (oA 46 v29 (oM 47 56 67 hF fun t47 hF=>oB 48 hF fun t48 hF=>oV [(0,t0),(1,t1),(2,.int .i64 t2),(6,.int .i64 t6),(7,(z1a h_11)),(8,v29),(9,.int .i64 t9),(48,.bool t48)] (n44 ?_))))));obtain⟨k47,e47,hF⟩:=z9 hF
      have J47:∀(t9_48:Int) (h_49:AHeap),k47 t9_48 h_49=some (rR,hR)→Go w0 m0 (Func.ntmps Try.f25) (K43 .normal) [(0,t0),(1,t1),(2,.int .i64 t2),(6,.int .i64 t6),(7,(z1a h_11)),(8,v29),(9,.int .i64 t9_48)] [] h_49:=by
       intro t9_48 h_49 hF;rw[e47] at hF;refine n43 (W.s (fun K50 n50 e50 q50 p50=>oG fun n51=>W.r (oA 10 (.int .i64 0) (oV [(0,t0),(1,t1),(2,.int .i64 t2),(6,.int .i64 t6),(7,(z1a h_11)),(8,v29),(9,.int .i64 t9_48),(10,.int .i64 0)] (n51 ?_)))));obtain⟨k53,e53,hF⟩:=z9 hF
       have J53:∀(h_54:AHeap),k53 h_54=some (rR,hR)→Go w0 m0 (Func.ntmps Try.f25) (K50 .normal) [(0,t0),(1,t1),(2,.int .i64 t2),(6,.int .i64 t6),(7,(z1a h_11)),(8,v29),(9,.int .i64 t9_48)] [] h_54:=by
        intro h_54 hF;rw[e53] at hF;refine n50 (W.s (fun K55 n55 e55 q55 p55=>W.s (fun K56 n56 e56 q56 p56=>W.r (oA 62 (.int .i64 t9_48) (oA 63 v29 (oM 64 56 67 hF fun t64 hF=>oB 65 hF fun t65 hF=>oA 66 (.bool t65) ?_))))));obtain⟨j73,e60,hF⟩:=z9 hF
        have J61:∀(t73:Bool) (h_59:AHeap),j73 t73 h_59=some (rR,hR)→WL Try.prog w0 m0 (Func.ntmps Try.f25) (Code.ops (y7 (y7 (y6 (y6 (y6 (y6 (y6 (y6 (y7 (y7 (y6 (y7 (y7 (y6 (y7 (z32 Try.f25))))))))))))))))) 12 K56 [(0,t0),(1,t1),(2,.int .i64 t2),(6,.int .i64 t6),(7,(z1a h_11)),(8,v29),(9,.int .i64 t9_48),(73,.bool t73)] [] h_59:=by
         intro t73 h_59 hF;rw[e60] at hF;refine oA 74 (.bool t73) ?_;obtain⟨j82,e63,hF⟩:=z9 hF
         have J64:∀(t82:Bool) (h_62:AHeap),j82 t82 h_62=some (rR,hR)→WL Try.prog w0 m0 (Func.ntmps Try.f25) (Code.ops (y7 (y7 (y6 (y6 (y6 (y6 (y6 (y6 (y7 (y7 (y6 (y7 (y7 (y6 (y7 (z32 Try.f25))))))))))))))))) 21 K56 [(0,t0),(1,t1),(2,.int .i64 t2),(6,.int .i64 t6),(7,(z1a h_11)),(8,v29),(9,.int .i64 t9_48),(82,.bool t82)] [] h_62:=by
          intro t82 h_62 hF;rw[e63] at hF;refine oA 83 (.bool t82) ?_;obtain⟨j86,e66,hF⟩:=z9 hF
          have J67:∀(t86:Bool) (h_65:AHeap),j86 t86 h_65=some (rR,hR)→WL Try.prog w0 m0 (Func.ntmps Try.f25) (Code.ops (y7 (y7 (y6 (y6 (y6 (y6 (y6 (y6 (y7 (y7 (y6 (y7 (y7 (y6 (y7 (z32 Try.f25))))))))))))))))) 25 K56 [(0,t0),(1,t1),(2,.int .i64 t2),(6,.int .i64 t6),(7,(z1a h_11)),(8,v29),(9,.int .i64 t9_48),(86,.bool t86)] [] h_65:=by
           intro t86 h_65 hF;rw[e66] at hF;refine oV [(0,t0),(1,t1),(2,.int .i64 t2),(6,.int .i64 t6),(7,(z1a h_11)),(8,v29),(9,.int .i64 t9_48),(86,.bool t86)] (n56 ?_);obtain⟨k68,e68,hF⟩:=z9 hF
           have J68:∀(h_69:AHeap),k68 h_69=some (rR,hR)→Go w0 m0 (Func.ntmps Try.f25) (K55 .normal) [(0,t0),(1,t1),(2,.int .i64 t2),(6,.int .i64 t6),(7,(z1a h_11))] [] h_69:=by
            intro h_69 hF;rw[e68] at hF;refine n55 (y14 (by kernel_rfl) (hc.ok w0) (plan:=[0,1,2,3,4,5,6,7]) (by kernel_rfl) (by kernel_rfl) (by kernel_rfl) (WD.a 0 (some 114) t0 h_69 (WD.a 0 (some 115) (.int .i64 t6) h_69 ?_)));obtain⟨t116,e70,hF⟩:=z3 hF;refine WD.b 1 (some 116) (.agg t116) h_69 (z35 (P:=Try.prog) (h:=h_69) (t:=55) (by kernel_rfl) (by kernel_rfl) e70) ?_;obtain⟨t117,e71,hF⟩:=z3 hF;refine WD.val (d:=(some 117)) (v:=.agg t117) (h':=h_69) (by kernel_rfl) (by kernel_rfl) (z262 (by kernel_rfl) e71) (k:=0) (by kernel_rfl) (fun e=>absurd e (by decide)) (by decide) ?_;obtain⟨t118,e72,hF⟩:=z3 hF;refine WD.b 0 (some 118) t118 h_69 (z24 (h:=h_69) e72) ?_;obtain⟨t119,e73,hF⟩:=z3 hF;refine WD.b 0 (some 119) t119 h_69 (z15 (P:=Try.prog) (h:=h_69) (s:=61) (f:=0) (by kernel_rfl) e73) ?_;obtain⟨t120,e74,hF⟩:=z3 hF;refine WD.b 0 (some 120) t120 h_69 (zbb (P:=Try.prog) (h:=h_69) (t:=59) (e':=58) (k:=.i64) (by kernel_rfl) (by kernel_rfl) (by kernel_rfl) e74) ?_;obtain⟨h_75,e76,hF⟩:=z3 hF;exact WD.eff (h':=h_75) (by kernel_rfl) (by kernel_rfl) (Eq.trans (by kernel_rfl) (z3b (P:=Try.prog) (h:=h_69) (t:=58) (v:=(.agg t117)) (by kernel_rfl) (by kernel_rfl) e76)) (k:=2) (by kernel_rfl) (fun _=>(by kernel_rfl)) (by decide) (WD.nil (gW [(0,t0),(1,t1),(2,.int .i64 t2),(6,.int .i64 t6)] (n16 (n15 (W.r (oA 14 (.int .i64 t6) (oI 15 .i64 hF fun t15 hF=>oA 6 (.int .i64 t15) (oV [(0,t0),(1,t1),(2,.int .i64 t2),(6,.int .i64 t15)] (n10 (gW _ (ih10 _ _ hF)))))))))))
           cases t86 with
           |true=>
            refine oT hF fun hF=>oG fun n78=>W.r (oA 87 (.int .i64 t2) (oA 11 (.int .i64 t2) (oV [(0,t0),(1,t1),(2,.int .i64 t2),(6,.int .i64 t6),(7,(z1a h_11)),(8,v29),(9,.int .i64 t9_48),(11,.int .i64 t2)] (n78 (W.s (fun K79 n79 e79 q79 p79=>oG fun n80=>W.r (oA 88 (.int .i64 t2) (oA 89 v29 (oA 90 (.int .i64 t9_48) (oP 91 56 67 .i64 hF fun t91 hF=>oF 92 67 1 hF fun t92 hF=>oLs 93 9 hF fun t93 hF=>oA 94 (.int .i64 (z65 t93)) (oI 95 .i64 hF fun t95 hF=>oB 96 hF fun t96 hF=>oV [(0,t0),(1,t1),(2,.int .i64 t2),(6,.int .i64 t6),(7,(z1a h_11)),(8,v29),(9,.int .i64 t9_48),(11,.int .i64 t2),(96,.bool t96)] (n80 ?_))))))))))));obtain⟨k87,e87,hF⟩:=z9 hF
            have J87:∀(t11:Int) (h_88:AHeap),k87 t11 h_88=some (rR,hR)→Go w0 m0 (Func.ntmps Try.f25) (K79 .normal) [(0,t0),(1,t1),(2,.int .i64 t2),(6,.int .i64 t6),(7,(z1a h_11)),(8,v29),(9,.int .i64 t9_48),(11,.int .i64 t11)] [] h_88:=by
             intro t11 h_88 hF;rw[e87] at hF;refine n79 (y14 (by kernel_rfl) (hc.ok w0) (plan:=[0,1,2,3,4,5,6,7,8,9,10]) (by kernel_rfl) (by kernel_rfl) (by kernel_rfl) ?_);obtain⟨t104,e89,hF⟩:=z3 hF;refine WD.b 1 (some 104) (.agg t104) h_88 (z35 (P:=Try.prog) (h:=h_88) (t:=55) (by kernel_rfl) (by kernel_rfl) e89) (WD.a 0 (some 105) v29 h_88 (WD.a 0 (some 106) (.int .i64 t9_48) h_88 ?_));obtain⟨t107,e90,hF⟩:=z3 hF;refine WD.b 0 (some 107) t107 h_88 (z179 (P:=Try.prog) (h:=h_88) (t:=56) (e':=67) (k:=.i64) (by kernel_rfl) (by kernel_rfl) (by kernel_rfl) e90) ?_;obtain⟨t108,e91,hF⟩:=z3 hF;refine WD.b 0 (some 108) t108 h_88 (z15 (P:=Try.prog) (h:=h_88) (s:=67) (f:=1) (by kernel_rfl) e91) ?_
             replace hF:=z3 hF;obtain⟨v109,e92,hF⟩:=hF
             replace hF:=z3 hF;obtain⟨t109,c93,hF⟩:=hF
             have c93:=z1d c93;subst c93;refine WD.b 1 (some 109) (zc t109) h_88 (z14 (P:=Try.prog) (h:=h_88) (t:=9) (by kernel_rfl) e92) (WD.a 0 (some 110) (.int .i64 t11) h_88 ?_);obtain⟨t111,e94,hF⟩:=z3 hF;refine WD.b 0 (some 111) (zc t111) h_88 (z6b (P:=Try.prog) (h:=h_88) (t:=9) (A:=none) (B:=(some (.int .i64 t11))) (by kernel_rfl) (.inr ⟨rfl,rfl⟩) (.inl ⟨_,rfl⟩) e94) (WD.a 0 (some 112) (.agg ([.int .i64 1,zc t111,.int .i64 0]:List AV)) h_88 ?_)
             replace hF:=z1b hF;obtain⟨r113,h_95,e96,hF⟩:=hF
             replace hF:=z3 hF;obtain⟨t113,c97,hF⟩:=hF
             have c97:=z7c c97;subst c97;refine WD.call (d:=(some 113)) (by kernel_rfl) (by kernel_rfl) (by kernel_rfl) e96 (k:=2) (by kernel_rfl) (fun _=>(by kernel_rfl)) (by decide) ?_;obtain⟨h_98,e99,hF⟩:=z3 hF;exact WD.eff (h':=h_98) (by kernel_rfl) (by kernel_rfl) (Eq.trans (by kernel_rfl) (z3b (P:=Try.prog) (h:=h_95) (t:=55) (v:=(.agg t113)) (by kernel_rfl) (by kernel_rfl) e99)) (k:=2) (by kernel_rfl) (fun _=>(by kernel_rfl)) (by decide) (WD.nil (gW [(0,t0),(1,t1),(2,.int .i64 t2),(6,.int .i64 t6),(7,(z1a h_11))] (gW _ (J68 _ hF))))
            cases t96 with
            |true=>
             exact oT hF fun hF=>W.r (oA 97 v29 (oA 98 (.int .i64 t9_48) (oP 99 56 67 .i64 hF fun t99 hF=>oF 100 67 1 hF fun t100 hF=>oLs 101 9 hF fun t101 hF=>oA 102 (.int .i64 (z65 t101)) (oI 103 .i64 hF fun t103 hF=>oA 11 (.int .i64 t103) (oV [(0,t0),(1,t1),(2,.int .i64 t2),(6,.int .i64 t6),(7,(z1a h_11)),(8,v29),(9,.int .i64 t9_48),(11,.int .i64 t103)] (gW _ (J87 _ _ hF)))))))
            |false=>
             exact oU hF fun hF=>oZ (gW _ (J87 _ _ hF))
           |false=>
            exact oU hF fun hF=>oZ (gW _ (J68 _ hF))
          cases t82 with
          |true=>
           replace hF:=z55 hF
           exact oA 84 (.int .i64 t2) (oB 85 hF fun t85 hF=>oA 86 (.bool t85) (lW _ (J67 _ _ hF)))
          |false=>
           replace hF:=z56 hF
           exact WL.o (some 84) (WL.o (some 85) (oA 86 (.bool false) (lW _ (J67 _ _ hF))))
         cases t73 with
         |true=>
          replace hF:=z55 hF
          exact oA 75 v29 (oA 76 (.int .i64 t9_48) (oP 77 56 67 .i64 hF fun t77 hF=>oF 78 67 1 hF fun t78 hF=>oLs 79 9 hF fun t79 hF=>oA 80 (.int .i64 (z65 t79)) (oB 81 hF fun t81 hF=>oA 82 (.bool t81) (lW _ (J64 _ _ hF)))))
         |false=>
          replace hF:=z56 hF
          exact WL.o (some 75) (WL.o (some 76) (WL.o (some 77) (WL.o (some 78) (WL.o (some 79) (WL.o (some 80) (WL.o (some 81) (oA 82 (.bool false) (lW _ (J64 _ _ hF)))))))))
        cases t65 with
        |true=>
         replace hF:=z55 hF
         exact oA 67 v29 (oA 68 (.int .i64 t9_48) (oP 69 56 67 .i64 hF fun t69 hF=>oF 70 67 0 hF fun t70 hF=>oLi 71 3 hF fun t71 hF=>oB 72 hF fun t72 hF=>oA 73 (.bool t72) (lW _ (J61 _ _ hF))))
        |false=>
         replace hF:=z56 hF
         exact WL.o (some 67) (WL.o (some 68) (WL.o (some 69) (WL.o (some 70) (WL.o (some 71) (WL.o (some 72) (oA 73 (.bool false) (lW _ (J61 _ _ hF))))))))
       refine W.blockK (by kernel_rfl) (fun K52 n52 s52 o52 q52 p52=>W.loopK (by kernel_rfl) (fun I116 K116 b116 n116 e116 q116 p116=>?_))
       have L116:∀(m:Nat) (t10:Int) (h_117:AHeap),z60 call h_11 v29 t9_48 k53 m t10 h_117=some (rR,hR)→Go w0 m0 (Func.ntmps Try.f25) I116 [(0,t0),(1,t1),(2,.int .i64 t2),(6,.int .i64 t6),(7,(z1a h_11)),(8,v29),(9,.int .i64 t9_48),(10,.int .i64 t10)] [] h_117:=by
        intro m
        induction m with
        |zero=>intro t10 h_117 hF;cases hF
        |succ m ih116=>
         intro t10 h_117 hF;rw[zd1] at hF;unfold z6d at hF;refine b116 (W.s (fun K118 n118 e118 q118 p118=>oG fun n119=>W.r (oA 51 (.int .i64 t10) (oA 52 (.int .i64 t9_48) (oB 53 hF fun t53 hF=>oV [(0,t0),(1,t1),(2,.int .i64 t2),(6,.int .i64 t6),(7,(z1a h_11)),(8,v29),(9,.int .i64 t9_48),(10,.int .i64 t10),(53,.bool t53)] (n119 ?_))))))
         cases t53 with
         |true=>
          refine oT hF fun hF=>oZ (n118 (oG fun n121=>W.blockK (by kernel_rfl) (fun K122 n122 s122 o122 q122 p122=>y14 (by kernel_rfl) (hc.ok w0) (plan:=[0,1,2,3,4,5,6]) (by kernel_rfl) (by kernel_rfl) (by kernel_rfl) ?_)));obtain⟨t56,e123,hF⟩:=z3 hF;refine WD.b 1 (some 56) (.agg t56) h_117 (z35 (P:=Try.prog) (h:=h_117) (t:=55) (by kernel_rfl) (by kernel_rfl) e123) (WD.a 0 (some 57) v29 h_117 (WD.a 0 (some 58) (.int .i64 t10) h_117 ?_));obtain⟨t59,e124,hF⟩:=z3 hF;refine WD.b 0 (some 59) t59 h_117 (z179 (P:=Try.prog) (h:=h_117) (t:=56) (e':=67) (k:=.i64) (by kernel_rfl) (by kernel_rfl) (by kernel_rfl) e124) ?_;obtain⟨t60,e125,hF⟩:=z3 hF;refine WD.b 1 (some 60) (.agg t60) h_117 (z35 (P:=Try.prog) (h:=h_117) (t:=67) (by kernel_rfl) (by kernel_rfl) e125) ?_
          replace hF:=z1b hF;obtain⟨r61,h_126,e127,hF⟩:=hF
          replace hF:=z3 hF;obtain⟨t61,c128,hF⟩:=hF
          have c128:=z7c c128;subst c128;refine WD.call (d:=(some 61)) (by kernel_rfl) (by kernel_rfl) (by kernel_rfl) e127 (k:=2) (by kernel_rfl) (fun _=>(by kernel_rfl)) (by decide) ?_;obtain⟨h_129,e130,hF⟩:=z3 hF;exact WD.eff (h':=h_129) (by kernel_rfl) (by kernel_rfl) (Eq.trans (by kernel_rfl) (z3b (P:=Try.prog) (h:=h_126) (t:=55) (v:=(.agg t61)) (by kernel_rfl) (by kernel_rfl) e130)) (k:=2) (by kernel_rfl) (fun _=>(by kernel_rfl)) (by decide) (WD.nil (gW [(0,t0),(1,t1),(2,.int .i64 t2),(6,.int .i64 t6),(7,(z1a h_11)),(8,v29),(9,.int .i64 t9_48),(10,.int .i64 t10)] (n122 (n121 (W.r (oA 54 (.int .i64 t10) (oI 55 .i64 hF fun t55 hF=>oA 10 (.int .i64 t55) (oV [(0,t0),(1,t1),(2,.int .i64 t2),(6,.int .i64 t6),(7,(z1a h_11)),(8,v29),(9,.int .i64 t9_48),(10,.int .i64 t55)] (n116 (gW _ (ih116 _ _ hF)))))))))))
         |false=>
          exact oU hF fun hF=>W.exit (by kernel_rfl) (e118 (e116 (s52 (by kernel_rfl) (gW _ (J53 _ hF)))))
       exact gW _ (L116 _ _ _ hF)
      cases t48 with
      |true=>
       exact oT hF fun hF=>W.r (oA 49 v29 (oM 50 56 67 hF fun t50 hF=>oA 9 (.int .i64 t50) (oV [(0,t0),(1,t1),(2,.int .i64 t2),(6,.int .i64 t6),(7,(z1a h_11)),(8,v29),(9,.int .i64 t50)] (gW _ (J47 _ _ hF)))))
      |false=>
       exact oU hF fun hF=>oZ (gW _ (J47 _ _ hF))
     cases t40 with
     |true=>
      exact oT hF fun hF=>W.r (oA 41 t1 (oA 42 (.int .i64 t6) (oP 43 63 3 .i64 hF fun t43 hF=>oLi 44 3 hF fun t44 hF=>oA 9 (.int .i64 t44) (oV [(0,t0),(1,t1),(2,.int .i64 t2),(6,.int .i64 t6),(7,(z1a h_11)),(8,v29),(9,.int .i64 t44)] (gW _ (J41 _ _ hF))))))
     |false=>
      exact oU hF fun hF=>oZ (gW _ (J41 _ _ hF))
    cases t33 with
    |true=>
     replace hF:=z55 hF
     exact oA 35 t1 (oA 36 (.int .i64 t6) (oP 37 63 3 .i64 hF fun t37 hF=>oLi 38 3 hF fun t38 hF=>oB 39 hF fun t39 hF=>oA 40 (.bool t39) (lW _ (J40 _ _ hF))))
    |false=>
     replace hF:=z56 hF
     exact WL.o (some 35) (WL.o (some 36) (WL.o (some 37) (WL.o (some 38) (WL.o (some 39) (oA 40 (.bool false) (lW _ (J40 _ _ hF)))))))
   |false=>
    exact oU hF fun hF=>W.exit (by kernel_rfl) (e12 (e10 (s3 (by kernel_rfl) (gW _ (J4 _ hF)))))
 exact gW _ (L10 _ _ _ hF)
noncomputable def za5(call:z11)(_:Nat)(t0:AV)(t1:Int)(h:AHeap):R:=obind (z39 t0) fun t9=>obind (z21 96 t9) fun t10=>obind (ze h t10) fun v11=>obind (z16 .i64 v11) fun t11=>lett ((t11:Int) == 0) fun (t12:Bool)=>ifB t12 (some (.ret (.tup [zc ([]:Bytes),.int .i64 40]),h)) (lett (decide (t1<0)) fun (t15:Bool)=>lett (fun (t19:Bool) (h_13:AHeap)=>ifB t19 (some (.ret (.tup [zc ([]:Bytes),.int .i64 2]),h_13)) (callN (call 49 [t0,.int .i64 t1] h_13) fun r22 h_18=>obind (z104 r22) fun t22=>lett (newH h_18 55 [.bool false,.str 0 0]) fun h_21=>obind (z22 h_21 2 t22 (z1a h_18)) fun h_23=>obind (ze h_23 (AV.ptr (AHeap.next h_18) 0)) fun v24=>obind (z33 v24) fun t24=>lett (!t24) fun (t25:Bool)=>ifB t25 (some (.ret (.tup [zc ([]:Bytes),.int .i64 4]),h_23)) (obind (ze h_23 (AV.ptr (AHeap.next h_18) 1)) fun v27=>obind (z2c v27) fun t27=>some (.ret (.tup [zc t27,.int .i64 0]),h_23)))) fun j19=>ifB t15 (j19 true h) (lett (decide (t1≥32)) fun (t18:Bool)=>j19 t18 h))
set_option maxHeartbeats 4000000 in
set_option maxRecDepth 20000 in
theorem z242{call:z11}(hc:SaysAll Try.prog call){n:Nat}{t0:AV}{t1:Int}{h:AHeap}{rR:ARes}{hR:AHeap}(hF:za5 call n t0 t1 h=some (rR,hR)):Says Try.prog 41 [t0,.int .i64 t1] h rR hR:=by
 unfold za5 at hF;refine sO Try.func41 fun w0 m0=>wW [(0,t0),(1,.int .i64 t1)] (oG fun n1=>W.r (oA 4 (zc ([]:Bytes)) (oA 5 (.int .i64 0) (oV [(0,t0),(1,.int .i64 t1)] (n1 (oH fun n2 q2=>W.blockK (by kernel_rfl) (fun K3 n3 s3 o3 q3 p3=>oG fun n4=>W.r (oA 8 t0 (oC0 9 hF fun t9 hF=>oF 10 61 1 hF fun t10 hF=>oLi 11 3 hF fun t11 hF=>oB 12 hF fun t12 hF=>oA 7 (.bool t12) (oV [(0,t0),(1,.int .i64 t1),(7,.bool t12)] (n4 ?_)))))))))))
 cases t12 with
 |true=>
  exact oT hF fun hF=>oG fun n10=>W.r (oA 4 (zc ([]:Bytes)) (oA 5 (.int .i64 40) (oV [(4,zc ([]:Bytes)),(5,.int .i64 40)] (n10 (oY (q3 (q2 (lZ hF [.tmp 4,.tmp 5] [zc ([]:Bytes),.int .i64 40] (rT (rT zd))))))))))
 |false=>
  refine oU hF fun hF=>W.s (fun K11 n11 e11 q11 p11=>W.r (oA 14 (.int .i64 t1) (oB 15 hF fun t15 hF=>oA 16 (.bool t15) ?_)));obtain⟨j19,e14,hF⟩:=z9 hF
  have J15:∀(t19:Bool) (h_13:AHeap),j19 t19 h_13=some (rR,hR)→WL Try.prog w0 m0 (Func.ntmps Try.f41) (Code.ops (y7 (y6 (y6 (y7 (y7 (y6 (z32 Try.f41)))))))) 6 K11 [(0,t0),(1,.int .i64 t1),(19,.bool t19)] [] h_13:=by
   intro t19 h_13 hF;rw[e14] at hF;refine oA 13 (.bool t19) (oV [(0,t0),(1,.int .i64 t1),(13,.bool t19)] (n11 ?_))
   cases t19 with
   |true=>
    exact oT hF fun hF=>oG fun n16=>W.r (oA 4 (zc ([]:Bytes)) (oA 5 (.int .i64 2) (oV [(4,zc ([]:Bytes)),(5,.int .i64 2)] (n16 (oY (q3 (q2 (lZ hF [.tmp 4,.tmp 5] [zc ([]:Bytes),.int .i64 2] (rT (rT zd))))))))))
   |false=>
    refine oU hF fun hF=>oZ (n3 (n2 (oG fun n17=>W.r (oA 20 t0 (oA 21 (.int .i64 t1) (oCa hc 22 hF fun t22 h_18 hF=>oN 6 hF fun h_21 hF=>oW 55 (.agg t22) hF fun h_23 hF=>oV [(6,(z1a h_18))] (n17 (oH fun n25 q25=>oG fun n26=>W.r (oA 23 (AV.ptr (AHeap.next h_18) 0) (oLb 24 4 hF fun t24 hF=>oB 25 hF fun t25 hF=>oV [(6,(z1a h_18)),(25,.bool t25)] (n26 ?_)))))))))))
    cases t25 with
    |true=>
     exact oT hF fun hF=>oG fun n30=>W.r (oA 4 (zc ([]:Bytes)) (oA 5 (.int .i64 4) (oV [(4,zc ([]:Bytes)),(5,.int .i64 4)] (n30 (oY (q25 (lZ hF [.tmp 4,.tmp 5] [zc ([]:Bytes),.int .i64 4] (rT (rT zd)))))))))
    |false=>
     exact oU hF fun hF=>oZ (n25 (oG fun n31=>W.r (oA 26 (AV.ptr (AHeap.next h_18) 1) (oLs 27 9 hF fun t27 hF=>oA 4 (zc t27) (oA 5 (.int .i64 0) (oV [(4,zc t27),(5,.int .i64 0)] (n31 (oY (lZ hF [.tmp 4,.tmp 5] [zc t27,.int .i64 0] (rT (rT zd)))))))))))
  cases t15 with
  |true=>
   replace hF:=z55 hF
   exact WL.o (some 17) (WL.o (some 18) (oA 19 (.bool true) (lW _ (J15 _ _ hF))))
  |false=>
   replace hF:=z56 hF
   exact oA 17 (.int .i64 t1) (oB 18 hF fun t18 hF=>oA 19 (.bool t18) (lW _ (J15 _ _ hF)))
noncomputable def zbe(call:z11)(_:Nat)(t0:AV)(t1:Int)(h:AHeap):R:=lett (newH h 55 [.bool false,.str 0 0]) fun h_2=>lett (decide (t1<0)) fun (t6:Bool)=>lett (fun (t10:Bool) (h_7:AHeap)=>ifB t10 (obind (z22 h_7 2 ([.bool false,.str 0 0]:List AV) (z1a h)) fun h_11=>obind (z28 h_11 2 (z1a h)) fun w4=>some (.ret (.agg w4),h_11)) (obind (z39 t0) fun t14=>obind (z21 0 t14) fun t15=>obind (z19c 32 3 t15 t1) fun t16=>obind (z28 h_7 3 t16) fun t17=>callN (call 68 [.agg t17] h_7) fun r18 h_19=>obind (z104 r18) fun t18=>obind (z22 h_19 2 t18 (z1a h)) fun h_22=>obind (z28 h_22 2 (z1a h)) fun w4_25=>some (.ret (.agg w4_25),h_22))) fun j10=>ifB t6 (j10 true h_2) (lett (decide (t1≥32)) fun (t9:Bool)=>j10 t9 h_2)
set_option maxHeartbeats 4000000 in
set_option maxRecDepth 20000 in
theorem z27b{call:z11}(hc:SaysAll Try.prog call){n:Nat}{t0:AV}{t1:Int}{h:AHeap}{rR:ARes}{hR:AHeap}(hF:zbe call n t0 t1 h=some (rR,hR)):Says Try.prog 49 [t0,.int .i64 t1] h rR hR:=by
 unfold zbe at hF;refine sO Try.func49 fun w0 m0=>wW [(0,t0),(1,.int .i64 t1)] (oG fun n1=>W.r (oN 4 hF fun h_2 hF=>oV [(0,t0),(1,.int .i64 t1),(4,(z1a h))] (n1 (oH fun n4 q4=>W.s (fun K5 n5 e5 q5 p5=>W.r (oA 5 (.int .i64 t1) (oB 6 hF fun t6 hF=>oA 7 (.bool t6) ?_)))))));obtain⟨j10,e8,hF⟩:=z9 hF
 have J9:∀(t10:Bool) (h_7:AHeap),j10 t10 h_7=some (rR,hR)→WL Try.prog w0 m0 (Func.ntmps Try.f49) (Code.ops (y7 (y7 (y6 (z32 Try.f49))))) 6 K5 [(0,t0),(1,.int .i64 t1),(4,(z1a h)),(10,.bool t10)] [] h_7:=by
  intro t10 h_7 hF;rw[e8] at hF;refine oV [(0,t0),(1,.int .i64 t1),(4,(z1a h)),(10,.bool t10)] (n5 ?_)
  cases t10 with
  |true=>
   refine oT hF fun hF=>oG fun n10=>W.r (oA 11 (.agg ([.bool false,.str 0 0]:List AV)) (oW 55 (.agg ([.bool false,.str 0 0]:List AV)) hF fun h_11 hF=>oV [(4,(z1a h))] (n10 (oY (q4 ?_)))));obtain⟨w4,e13,hF⟩:=z3 hF;exact lZ hF [.cell 4 55] [.agg w4] (rY e13 zd)
  |false=>
   refine oU hF fun hF=>oZ (n4 (oG fun n14=>W.r (oA 12 t0 (oA 13 (.int .i64 t1) (oC0 14 hF fun t14 hF=>oF 15 61 0 hF fun t15 hF=>oQ 16 59 58 .i64 hF fun t16 hF=>oR 17 58 hF fun t17 hF=>oCa hc 18 hF fun t18 h_19 hF=>oW 55 (.agg t18) hF fun h_22 hF=>oV [(4,(z1a h))] (n14 (oY ?_)))))));obtain⟨w4_25,e24,hF⟩:=z3 hF;exact lZ hF [.cell 4 55] [.agg w4_25] (rY e24 zd)
 cases t6 with
 |true=>
  replace hF:=z55 hF
  exact WL.o (some 8) (WL.o (some 9) (oA 10 (.bool true) (lW _ (J9 _ _ hF))))
 |false=>
  replace hF:=z56 hF
  exact oA 8 (.int .i64 t1) (oB 9 hF fun t9 hF=>oA 10 (.bool t9) (lW _ (J9 _ _ hF)))
noncomputable def za3(_:z11)(_:Nat)(t0:AV)(t1:Int)(t2:Int)(h:AHeap):R:=obind (z39 t0) fun t9=>obind (z21 96 t9) fun t10=>obind (ze h t10) fun v11=>obind (z16 .i64 v11) fun t11=>lett ((t11:Int) == 0) fun (t12:Bool)=>ifB t12 (some (.ret (.int .i64 40),h)) (lett (decide (t1<0)) fun (t15:Bool)=>lett (fun (t19:Bool) (h_13:AHeap)=>ifB t19 (some (.ret (.int .i64 2),h_13)) (lett ((t2:Int) != 0) fun (t22:Bool)=>ifB t22 (some (.ret (.int .i64 t2),h_13)) (obind (z39 t0) fun t25=>obind (z21 96 t25) fun t26=>obind (ze h_13 t26) fun v27=>obind (z16 .i64 v27) fun t27=>lett (decide (t27>0)) fun (t28:Bool)=>lett (fun (h_28:AHeap)=>obind (z39 t0) fun t39=>obind (z21 97 t39) fun t40=>obind (ze h_28 t40) fun v41=>obind (z16 .i64 v41) fun t41=>lett (IntKind.i64.wrap (t41+1)) fun (t42:Int)=>obind (z39 t0) fun t43=>obind (z21 97 t43) fun t44=>obind (z22 h_28 1 [.int .i64 t42] t44) fun h_37=>some (.ret (.int .i64 0),h_37)) fun k27=>ifB t28 (obind (z39 t0) fun t31=>obind (z21 96 t31) fun t32=>obind (ze h_13 t32) fun v33=>obind (z16 .i64 v33) fun t33=>lett (IntKind.i64.wrap (t33 - 1)) fun (t34:Int)=>obind (z39 t0) fun t35=>obind (z21 96 t35) fun t36=>obind (z22 h_13 1 [.int .i64 t34] t36) fun h_47=>k27 h_47) (k27 h_13)))) fun j19=>ifB t15 (j19 true h) (lett (decide (t1≥32)) fun (t18:Bool)=>j19 t18 h))
set_option maxHeartbeats 4000000 in
set_option maxRecDepth 20000 in
theorem z240{call:z11}(_:SaysAll Try.prog call){n:Nat}{t0:AV}{t1:Int}{t2:Int}{h:AHeap}{rR:ARes}{hR:AHeap}(hF:za3 call n t0 t1 t2 h=some (rR,hR)):Says Try.prog 50 [t0,.int .i64 t1,.int .i64 t2] h rR hR:=by
 unfold za3 at hF;refine sO Try.func50 fun w0 m0=>wW [(0,t0),(1,.int .i64 t1),(2,.int .i64 t2)] (oG fun n1=>W.r (oA 6 (.int .i64 0) (oV [(0,t0),(1,.int .i64 t1),(2,.int .i64 t2)] (n1 (oH fun n2 q2=>W.blockK (by kernel_rfl) (fun K3 n3 s3 o3 q3 p3=>oG fun n4=>W.r (oA 8 t0 (oC0 9 hF fun t9 hF=>oF 10 61 1 hF fun t10 hF=>oLi 11 3 hF fun t11 hF=>oB 12 hF fun t12 hF=>oA 7 (.bool t12) (oV [(0,t0),(1,.int .i64 t1),(2,.int .i64 t2),(7,.bool t12)] (n4 ?_))))))))))
 cases t12 with
 |true=>
  exact oT hF fun hF=>oG fun n10=>W.r (oA 6 (.int .i64 40) (oV [(6,.int .i64 40)] (n10 (oY (q3 (q2 (lZ hF [.tmp 6] [.int .i64 40] (rT zd))))))))
 |false=>
  refine oU hF fun hF=>W.s (fun K11 n11 e11 q11 p11=>W.r (oA 14 (.int .i64 t1) (oB 15 hF fun t15 hF=>oA 16 (.bool t15) ?_)));obtain⟨j19,e14,hF⟩:=z9 hF
  have J15:∀(t19:Bool) (h_13:AHeap),j19 t19 h_13=some (rR,hR)→WL Try.prog w0 m0 (Func.ntmps Try.f50) (Code.ops (y7 (y6 (y6 (y7 (y7 (y6 (z32 Try.f50)))))))) 6 K11 [(0,t0),(2,.int .i64 t2),(19,.bool t19)] [] h_13:=by
   intro t19 h_13 hF;rw[e14] at hF;refine oA 13 (.bool t19) (oV [(0,t0),(2,.int .i64 t2),(13,.bool t19)] (n11 ?_))
   cases t19 with
   |true=>
    exact oT hF fun hF=>oG fun n16=>W.r (oA 6 (.int .i64 2) (oV [(6,.int .i64 2)] (n16 (oY (q3 (q2 (lZ hF [.tmp 6] [.int .i64 2] (rT zd))))))))
   |false=>
    refine oU hF fun hF=>oG fun n17=>W.r (oA 21 (.int .i64 t2) (oB 22 hF fun t22 hF=>oA 20 (.bool t22) (oV [(0,t0),(2,.int .i64 t2),(20,.bool t22)] (n17 ?_))))
    cases t22 with
    |true=>
     exact oT hF fun hF=>oG fun n19=>W.r (oA 23 (.int .i64 t2) (oA 6 (.int .i64 t2) (oV [(6,.int .i64 t2)] (n19 (oY (q3 (q2 (lZ hF [.tmp 6] [.int .i64 t2] (rT zd)))))))))
    |false=>
     refine oU hF fun hF=>oZ (n3 (n2 (W.s (fun K20 n20 e20 q20 p20=>oG fun n21=>W.r (oA 24 t0 (oC0 25 hF fun t25 hF=>oF 26 61 1 hF fun t26 hF=>oLi 27 3 hF fun t27 hF=>oB 28 hF fun t28 hF=>oV [(0,t0),(28,.bool t28)] (n21 ?_)))))));obtain⟨k27,e27,hF⟩:=z9 hF
     have J27:∀(h_28:AHeap),k27 h_28=some (rR,hR)→Go w0 m0 (Func.ntmps Try.f50) (K20 .normal) [(0,t0)] [] h_28:=by
      intro h_28 hF;rw[e27] at hF;exact n20 (oG fun n29=>W.r (oA 37 t0 (oA 38 t0 (oC0 39 hF fun t39 hF=>oF 40 61 2 hF fun t40 hF=>oLi 41 3 hF fun t41 hF=>oI 42 .i64 hF fun t42 hF=>oC0 43 hF fun t43 hF=>oF 44 61 2 hF fun t44 hF=>oW 3 (.int .i64 t42) hF fun h_37 hF=>oV [] (n29 (oG fun n39=>W.r (oA 6 (.int .i64 0) (oV [(6,.int .i64 0)] (n39 (oY (lZ hF [.tmp 6] [.int .i64 0] (rT zd))))))))))))
     cases t28 with
     |true=>
      exact oT hF fun hF=>W.r (oA 29 t0 (oA 30 t0 (oC0 31 hF fun t31 hF=>oF 32 61 1 hF fun t32 hF=>oLi 33 3 hF fun t33 hF=>oI 34 .i64 hF fun t34 hF=>oC0 35 hF fun t35 hF=>oF 36 61 1 hF fun t36 hF=>oW 3 (.int .i64 t34) hF fun h_47 hF=>oV [(0,t0)] (gW _ (J27 _ hF)))))
     |false=>
      exact oU hF fun hF=>oZ (gW _ (J27 _ hF))
  cases t15 with
  |true=>
   replace hF:=z55 hF
   exact WL.o (some 17) (WL.o (some 18) (oA 19 (.bool true) (lW _ (J15 _ _ hF))))
  |false=>
   replace hF:=z56 hF
   exact oA 17 (.int .i64 t1) (oB 18 hF fun t18 hF=>oA 19 (.bool t18) (lW _ (J15 _ _ hF)))
noncomputable def zed(call:z11)(v1:AV)(h_4:AHeap)(k16:AHeap→R)(self:Int→AHeap→R)(t4:Int)(h_24:AHeap):R:=obind (z21 2 v1) fun t8=>obind (ze h_24 t8) fun v9=>obind (z18e v9) fun t10=>lett (decide (t4<t10)) fun (t11:Bool)=>ifB t11 (obind (z28 h_24 2 (z1a h_4)) fun t14=>obind (z21 2 v1) fun t15=>obind (ze h_24 t15) fun v16=>obind (z17a 3 v16 t4) fun t18=>obind (z28 h_24 3 t18) fun t19=>callN (call 51 [.agg t14,.agg t19] h_24) fun r20 h_38=>obind (z104 r20) fun t20=>obind (z22 h_38 2 t20 (z1a h_4)) fun h_41=>lett (IntKind.i64.wrap (t4+1)) fun (t13:Int)=>self t13 h_41) (k16 h_24)
noncomputable def z117(call:z11)(v1:AV)(h_4:AHeap)(k16:AHeap→R):Nat→Int→AHeap→R:=z143 (fun _ _=>none) (zed call v1 h_4 k16)
theorem z16a(call:z11)(v1:AV)(h_4:AHeap)(k16:AHeap→R)(m:Nat):z117 call v1 h_4 k16 (m+1)=zed call v1 h_4 k16 (z117 call v1 h_4 k16 m):=rfl
noncomputable def z12d(call:z11)(n:Nat)(t0:List AV)(h:AHeap):R:=outK (za8 h 58 (some (.agg t0))) fun v1 h_2=>lett (newH h_2 55 [.bool false,.str 0 0]) fun h_4=>obind (z21 0 v1) fun t5=>obind (z28 h_4 2 t5) fun t6=>lett (newH h_4 55 [.bool false,.str 0 0]) fun h_9=>obind (z22 h_9 2 t6 (z1a h_4)) fun h_11=>lett (fun (h_17:AHeap)=>obind (z28 h_17 2 (z1a h_4)) fun t21=>obind (z22 h_17 2 t21 (z1a h_2)) fun h_20=>obind (z28 h_20 2 (z1a h_2)) fun w2=>some (.ret (.agg w2),h_20)) fun k16=>z117 call v1 h_4 k16 n 0 h_11
set_option maxHeartbeats 4000000 in
set_option maxRecDepth 20000 in
theorem z364{call:z11}(hc:SaysAll Try.prog call){n:Nat}{t0:List AV}{h:AHeap}{rR:ARes}{hR:AHeap}(hF:z12d call n t0 h=some (rR,hR)):Says Try.prog 68 [.agg t0] h rR hR:=by
 unfold z12d at hF;refine sO Try.func68 fun w0 m0=>wW [(0,.agg t0)] (oG fun n1=>W.r (oK 1 hF fun v1 h_2 hF=>oN 2 hF fun h_4 hF=>oV [(1,v1),(2,(z1a h_2))] (n1 (oG fun n6=>W.r (oF 5 58 0 hF fun t5 hF=>oR 6 55 hF fun t6 hF=>oN 3 hF fun h_9 hF=>oW 55 (.agg t6) hF fun h_11 hF=>oV [(1,v1),(2,(z1a h_2)),(3,(z1a h_4))] (n6 (W.s (fun K13 n13 e13 q13 p13=>oG fun n14=>W.r (oA 4 (.int .i64 0) (oV [(1,v1),(2,(z1a h_2)),(3,(z1a h_4)),(4,.int .i64 0)] (n14 ?_)))))))))));obtain⟨k16,e16,hF⟩:=z9 hF
 have J16:∀(h_17:AHeap),k16 h_17=some (rR,hR)→Go w0 m0 (Func.ntmps Try.f68) (K13 .normal) [(2,(z1a h_2)),(3,(z1a h_4))] [] h_17:=by
  intro h_17 hF;rw[e16] at hF;refine n13 (oG fun n18=>W.r (oR 21 55 hF fun t21 hF=>oW 55 (.agg t21) hF fun h_20 hF=>oV [(2,(z1a h_2))] (n18 (oY ?_))));obtain⟨w2,e22,hF⟩:=z3 hF;exact lZ hF [.cell 2 55] [.agg w2] (rY e22 zd)
 refine W.blockK (by kernel_rfl) (fun K15 n15 s15 o15 q15 p15=>W.loopK (by kernel_rfl) (fun I23 K23 b23 n23 e23 q23 p23=>?_))
 have L23:∀(m:Nat) (t4:Int) (h_24:AHeap),z117 call v1 h_4 k16 m t4 h_24=some (rR,hR)→Go w0 m0 (Func.ntmps Try.f68) I23 [(1,v1),(2,(z1a h_2)),(3,(z1a h_4)),(4,.int .i64 t4)] [] h_24:=by
  intro m
  induction m with
  |zero=>intro t4 h_24 hF;cases hF
  |succ m ih23=>
   intro t4 h_24 hF;rw[z16a] at hF;unfold zed at hF;refine b23 (W.s (fun K25 n25 e25 q25 p25=>oG fun n26=>W.r (oA 7 (.int .i64 t4) (oF 8 58 1 hF fun t8 hF=>oL 9 56 hF fun v9 hF=>oM 10 56 67 hF fun t10 hF=>oB 11 hF fun t11 hF=>oV [(1,v1),(2,(z1a h_2)),(3,(z1a h_4)),(4,.int .i64 t4),(11,.bool t11)] (n26 ?_)))))
   cases t11 with
   |true=>
    refine oT hF fun hF=>oZ (n25 (oG fun n31=>W.blockK (by kernel_rfl) (fun K32 n32 s32 o32 q32 p32=>y14 (by kernel_rfl) (hc.ok w0) (plan:=[0,1,2,3,4,5,6,7]) (by kernel_rfl) (by kernel_rfl) (by kernel_rfl) ?_)));obtain⟨t14,e33,hF⟩:=z3 hF;refine WD.b 1 (some 14) (.agg t14) h_24 (z35 (P:=Try.prog) (h:=h_24) (t:=55) (by kernel_rfl) (by kernel_rfl) e33) ?_;obtain⟨t15,e34,hF⟩:=z3 hF;refine WD.b 0 (some 15) t15 h_24 (z15 (P:=Try.prog) (h:=h_24) (s:=58) (f:=1) (by kernel_rfl) e34) ?_;obtain⟨v16,e35,hF⟩:=z3 hF;refine WD.b 1 (some 16) v16 h_24 (z14 (P:=Try.prog) (h:=h_24) (t:=56) (by kernel_rfl) e35) (WD.a 0 (some 17) (.int .i64 t4) h_24 ?_);obtain⟨t18,e36,hF⟩:=z3 hF;refine WD.b 0 (some 18) t18 h_24 (z179 (P:=Try.prog) (h:=h_24) (t:=56) (e':=67) (k:=.i64) (by kernel_rfl) (by kernel_rfl) (by kernel_rfl) e36) ?_;obtain⟨t19,e37,hF⟩:=z3 hF;refine WD.b 1 (some 19) (.agg t19) h_24 (z35 (P:=Try.prog) (h:=h_24) (t:=67) (by kernel_rfl) (by kernel_rfl) e37) ?_
    replace hF:=z1b hF;obtain⟨r20,h_38,e39,hF⟩:=hF
    replace hF:=z3 hF;obtain⟨t20,c40,hF⟩:=hF
    have c40:=z7c c40;subst c40;refine WD.call (d:=(some 20)) (by kernel_rfl) (by kernel_rfl) (by kernel_rfl) e39 (k:=2) (by kernel_rfl) (fun _=>(by kernel_rfl)) (by decide) ?_;obtain⟨h_41,e42,hF⟩:=z3 hF;exact WD.eff (h':=h_41) (by kernel_rfl) (by kernel_rfl) (Eq.trans (by kernel_rfl) (z3b (P:=Try.prog) (h:=h_38) (t:=55) (v:=(.agg t20)) (by kernel_rfl) (by kernel_rfl) e42)) (k:=2) (by kernel_rfl) (fun _=>(by kernel_rfl)) (by decide) (WD.nil (gW [(1,v1),(2,(z1a h_2)),(3,(z1a h_4)),(4,.int .i64 t4)] (n32 (n31 (W.r (oA 12 (.int .i64 t4) (oI 13 .i64 hF fun t13 hF=>oA 4 (.int .i64 t13) (oV [(1,v1),(2,(z1a h_2)),(3,(z1a h_4)),(4,.int .i64 t13)] (n23 (gW _ (ih23 _ _ hF)))))))))))
   |false=>
    exact oU hF fun hF=>W.exit (by kernel_rfl) (e25 (e23 (s15 (by kernel_rfl) (gW _ (J16 _ hF)))))
 exact gW _ (L23 _ _ _ hF)
noncomputable def z12e(_:z11)(_:Nat)(t0:List AV)(t1:List AV)(h:AHeap):R:=outK (za8 h 55 (some (.agg t0))) fun v2 h_2=>outK (za8 h_2 67 (some (.agg t1))) fun v3 h_4=>lett (newH h_4 55 [.bool false,.str 0 0]) fun h_6=>obind (z21 0 v3) fun t5=>obind (ze h_6 t5) fun v6=>obind (z16 .i64 v6) fun t6=>lett ((t6:Int) == 1) fun (t8:Bool)=>ifB t8 (obind (z21 1 v2) fun t9=>obind (ze h_6 t9) fun v10=>obind (z2c v10) fun t10=>obind (z21 1 v3) fun t11=>obind (ze h_6 t11) fun v12=>obind (z2c v12) fun t12=>obind (z350 t10 t12) fun t13=>obind (z22 h_6 2 ([.bool true,zc t13]:List AV) (z1a h_4)) fun h_24=>obind (z28 h_24 2 (z1a h_4)) fun w4=>some (.ret (.agg w4),h_24)) (lett ((t6:Int) == 2) fun (t16:Bool)=>ifB t16 (obind (z21 1 v2) fun t17=>obind (ze h_6 t17) fun v18=>obind (z2c v18) fun t18=>obind (z21 2 v3) fun t19=>obind (ze h_6 t19) fun v20=>obind (z16 .i64 v20) fun t20=>obind (z6c t18 0 t20) fun t21=>obind (z22 h_6 2 ([.bool true,zc t21]:List AV) (z1a h_4)) fun h_37=>obind (z28 h_37 2 (z1a h_4)) fun w4_40=>some (.ret (.agg w4_40),h_37)) (obind (z22 h_6 2 ([.bool false,.str 0 0]:List AV) (z1a h_4)) fun h_42=>obind (z28 h_42 2 (z1a h_4)) fun w4_45=>some (.ret (.agg w4_45),h_42)))
set_option maxHeartbeats 4000000 in
set_option maxRecDepth 20000 in
theorem z365{call:z11}(_:SaysAll Try.prog call){n:Nat}{t0:List AV}{t1:List AV}{h:AHeap}{rR:ARes}{hR:AHeap}(hF:z12e call n t0 t1 h=some (rR,hR)):Says Try.prog 51 [.agg t0,.agg t1] h rR hR:=by
 unfold z12e at hF;refine sO Try.func51 fun w0 m0=>wW [(0,.agg t0),(1,.agg t1)] (oG fun n1=>W.r (oK 2 hF fun v2 h_2 hF=>oK 3 hF fun v3 h_4 hF=>oN 4 hF fun h_6 hF=>oV [(2,v2),(3,v3),(4,(z1a h_4))] (n1 (oH fun n8 q8=>oG fun n9=>W.r (oF 5 67 0 hF fun t5 hF=>oLi 6 3 hF fun t6 hF=>oV [(2,v2),(3,v3),(4,(z1a h_4)),(6,.int .i64 t6)] (n9 (W.blockK (by kernel_rfl) (fun K13 n13 s13 o13 q13 p13=>oG fun n14=>W.r (oB 8 hF fun t8 hF=>oA 7 (.bool t8) (oV [(2,v2),(3,v3),(4,(z1a h_4)),(6,.int .i64 t6),(7,.bool t8)] (n14 ?_)))))))))))
 cases t8 with
 |true=>
  refine oT hF fun hF=>oG fun n16=>W.r (oF 9 55 1 hF fun t9 hF=>oLs 10 9 hF fun t10 hF=>oF 11 67 1 hF fun t11 hF=>oLs 12 9 hF fun t12 hF=>?_);obtain⟨t13,e23,hF⟩:=z3 hF;refine WL.b (some 13) (zc t13) h_6 (z125 (P:=Try.prog) (h:=h_6) (t:=9) (lit:=false) e23) (oA 14 (.agg ([.bool true,zc t13]:List AV)) (oW 55 (.agg ([.bool true,zc t13]:List AV)) hF fun h_24 hF=>oV [(4,(z1a h_4))] (n16 (oY (q13 (q8 ?_))))));obtain⟨w4,e26,hF⟩:=z3 hF;exact lZ hF [.cell 4 55] [.agg w4] (rY e26 zd)
 |false=>
  refine oU hF fun hF=>oG fun n27=>W.r (oB 16 hF fun t16 hF=>oA 15 (.bool t16) (oV [(2,v2),(3,v3),(4,(z1a h_4)),(15,.bool t16)] (n27 ?_)))
  cases t16 with
  |true=>
   refine oT hF fun hF=>oG fun n29=>W.r (oF 17 55 1 hF fun t17 hF=>oLs 18 9 hF fun t18 hF=>oF 19 67 2 hF fun t19 hF=>oLi 20 3 hF fun t20 hF=>?_);obtain⟨t21,e36,hF⟩:=z3 hF;refine WL.b (some 21) (zc t21) h_6 (z6b (P:=Try.prog) (h:=h_6) (t:=9) (A:=none) (B:=(some (.int .i64 t20))) (by kernel_rfl) (.inr ⟨rfl,rfl⟩) (.inl ⟨_,rfl⟩) e36) (oA 22 (.agg ([.bool true,zc t21]:List AV)) (oW 55 (.agg ([.bool true,zc t21]:List AV)) hF fun h_37 hF=>oV [(4,(z1a h_4))] (n29 (oY (q13 (q8 ?_))))));obtain⟨w4_40,e39,hF⟩:=z3 hF;exact lZ hF [.cell 4 55] [.agg w4_40] (rY e39 zd)
  |false=>
   refine oU hF fun hF=>oZ (n13 (n8 (oG fun n41=>W.r (oA 23 (.agg ([.bool false,.str 0 0]:List AV)) (oW 55 (.agg ([.bool false,.str 0 0]:List AV)) hF fun h_42 hF=>oV [(4,(z1a h_4))] (n41 (oY ?_)))))));obtain⟨w4_45,e44,hF⟩:=z3 hF;exact lZ hF [.cell 4 55] [.agg w4_45] (rY e44 zd)
noncomputable def z13b(call:z11)(t0:Bytes)(self:AV→Int→AHeap→R)(t4:AV)(t5:Int)(h_6:AHeap):R:=obind (z6c t0 t5 (z65 t0)) fun t12=>callN (call 63 [zc t12] h_6) fun r13 h_10=>obind (z101 0 r13) fun v14=>obind (z2c v14) fun t14=>obind (z101 1 r13) fun v15=>obind (z16 .i64 v15) fun t15=>obind (z101 2 r13) fun v16=>obind (z16 .i64 v16) fun t16=>lett ((t16:Int) != 0) fun (t18:Bool)=>ifB t18 (some (.ret (.tup [t4,.int .i64 t5]),h_10)) (outK (z183 Try.prog h_10 104 1 [(0,zc t14)]) fun v23 h_23=>outK (z34 Try.prog h_23 104 104 t4 v23) fun v24 h_25=>lett (IntKind.i64.wrap (t5+t15)) fun (t27:Int)=>self v24 t27 h_25)
noncomputable def z118(call:z11)(t0:Bytes):Nat→AV→Int→AHeap→R:=z143 (fun _ _ _=>none) (z13b call t0)
theorem z1cd(call:z11)(t0:Bytes)(m:Nat):z118 call t0 (m+1)=z13b call t0 (z118 call t0 m):=rfl
noncomputable def z159(call:z11)(n:Nat)(t0:Bytes)(h:AHeap):R:=z118 call t0 n AV.nsl 0 h
set_option maxHeartbeats 4000000 in
set_option maxRecDepth 20000 in
theorem z367{call:z11}(hc:SaysAll Try.prog call){n:Nat}{t0:Bytes}{h:AHeap}{rR:ARes}{hR:AHeap}(hF:z159 call n t0 h=some (rR,hR)):Says Try.prog 42 [zc t0] h rR hR:=by
 unfold z159 at hF;refine sO Try.func42 fun w0 m0=>wW [(0,zc t0)] (oG fun n1=>W.r (oA 2 AV.nsl (oA 3 (.int .i64 0) (oV [(0,zc t0)] (n1 (oG fun n2=>W.r (oA 4 AV.nsl (oV [(0,zc t0),(4,AV.nsl)] (n2 (oG fun n3=>W.r (oA 5 (.int .i64 0) (oV [(0,zc t0),(4,AV.nsl),(5,.int .i64 0)] (n3 (W.blockK (by kernel_rfl) (fun K4 n4 s4 o4 q4 p4=>W.loopK (by kernel_rfl) (fun I5 K5 b5 n5 e5 q5 p5=>?_))))))))))))))))
 have L5:∀(m:Nat) (t4:AV) (t5:Int) (h_6:AHeap),z118 call t0 m t4 t5 h_6=some (rR,hR)→Go w0 m0 (Func.ntmps Try.f42) I5 [(0,zc t0),(4,t4),(5,.int .i64 t5)] [] h_6:=by
  intro m
  induction m with
  |zero=>intro t4 t5 h_6 hF;cases hF
  |succ m ih5=>
   intro t4 t5 h_6 hF;rw[z1cd] at hF;unfold z13b at hF;refine b5 (W.blockK (by kernel_rfl) (fun K7 n7 s7 o7 q7 p7=>oG fun n8=>W.r (oA 10 (zc t0) (oA 11 (.int .i64 t5) ?_))));obtain⟨t12,e9,hF⟩:=z3 hF;refine WL.b (some 12) (zc t12) h_6 (z6b (P:=Try.prog) (h:=h_6) (t:=9) (A:=(some (.int .i64 t5))) (B:=none) (by kernel_rfl) (.inl ⟨_,rfl⟩) (.inr ⟨rfl,rfl⟩) e9) (oC hc (some 13) hF fun r13 h_10 hF=>oA 9 r13 (oEs 14 hF fun t14 hF=>oEi 15 hF fun t15 hF=>oEi 16 hF fun t16 hF=>oA 6 (zc t14) (oA 7 (.int .i64 t15) (oA 8 (.int .i64 t16) (oV [(0,zc t0),(4,t4),(5,.int .i64 t5),(6,zc t14),(7,.int .i64 t15),(8,.int .i64 t16)] (n8 (oH fun n18 q18=>oG fun n19=>W.r (oA 17 (.int .i64 t16) (oB 18 hF fun t18 hF=>oV [(0,zc t0),(4,t4),(5,.int .i64 t5),(6,zc t14),(7,.int .i64 t15),(18,.bool t18)] (n19 ?_))))))))))
   cases t18 with
   |true=>
    exact oT hF fun hF=>oG fun n21=>W.r (oA 19 t4 (oA 20 (.int .i64 t5) (oA 2 t4 (oA 3 (.int .i64 t5) (oV [(2,t4),(3,.int .i64 t5)] (n21 (oY (q18 (q7 (q5 (q4 (lZ hF [.tmp 2,.tmp 3] [t4,.int .i64 t5] (rT (rT zd))))))))))))))
   |false=>
    exact oU hF fun hF=>oZ (n18 (oG fun n22=>W.r (oA 21 t4 (oA 22 (zc t14) (oK 23 hF fun v23 h_23 hF=>oK 24 hF fun v24 h_25 hF=>oA 4 v24 (oV [(0,zc t0),(4,v24),(5,.int .i64 t5),(7,.int .i64 t15)] (n22 (W.r (oA 25 (.int .i64 t5) (oA 26 (.int .i64 t15) (oI 27 .i64 hF fun t27 hF=>oA 5 (.int .i64 t27) (oV [(0,zc t0),(4,v24),(5,.int .i64 t27)] (n7 (n5 (gW _ (ih5 _ _ _ hF))))))))))))))))
 exact gW _ (L5 _ _ _ _ hF)
noncomputable def z158(call:z11)(_:Nat)(t0:Bytes)(h:AHeap):R:=lett (decide ((z65 t0)<8)) fun (t9:Bool)=>ifB t9 (some (.ret (.tup [zc ([]:Bytes),.int .i64 0,.int .i64 30]),h)) (obind (z398 t0 0) fun t11=>lett (IntKind.i64.wrap t11) fun (t12:Int)=>lett (IntKind.i64.wrap (t12*16777216)) fun (t13:Int)=>obind (z398 t0 1) fun t15=>lett (IntKind.i64.wrap t15) fun (t16:Int)=>lett (IntKind.i64.wrap (t16*65536)) fun (t17:Int)=>lett (IntKind.i64.wrap (t13+t17)) fun (t18:Int)=>obind (z398 t0 2) fun t20=>lett (IntKind.i64.wrap t20) fun (t21:Int)=>lett (IntKind.i64.wrap (t21*256)) fun (t22:Int)=>lett (IntKind.i64.wrap (t18+t22)) fun (t23:Int)=>obind (z398 t0 3) fun t25=>lett (IntKind.i64.wrap t25) fun (t26:Int)=>lett (IntKind.i64.wrap (t23+t26)) fun (t27:Int)=>lett (fun (t39:Bool) (h_24:AHeap)=>ifB t39 (some (.ret (.tup [zc ([]:Bytes),.int .i64 0,.int .i64 7]),h_24)) (lett (IntKind.i64.wrap (t27+12)) fun (t43:Int)=>lett (decide ((z65 t0)<t43)) fun (t44:Bool)=>ifB t44 (some (.ret (.tup [zc ([]:Bytes),.int .i64 0,.int .i64 30]),h_24)) (lett (IntKind.i64.wrap (8+t27)) fun (t47:Int)=>obind (z6c t0 8 t47) fun t48=>lett (IntKind.i64.wrap (t27+12)) fun (t53:Int)=>obind (z6c t0 0 t53) fun t54=>callN (call 69 [zc t48] h_24) fun r50 h_38=>obind (z2c r50) fun t50=>lett (!eqS t50 t54) fun (t55:Bool)=>ifB t55 (some (.ret (.tup [zc ([]:Bytes),.int .i64 0,.int .i64 7]),h_38)) (lett (IntKind.i64.wrap (t27+12)) fun (t58:Int)=>some (.ret (.tup [zc t48,.int .i64 t58,.int .i64 0]),h_38))))) fun k23=>lett (decide (t27>4096)) fun (t29:Bool)=>ifB t29 (k23 true h) (obind (z6c t0 0 4) fun t32=>obind (z6c t0 4 8) fun t37=>callN (call 84 [zc t32] h) fun r33 h_48=>obind (z16 .u32 r33) fun t33=>lett (IntKind.u64.wrap t33) fun (t34:Int)=>callN (call 70 [.int .u64 t34,.int .i64 4] h_48) fun r35 h_52=>obind (z2c r35) fun t35=>lett (!eqS t35 t37) fun (t38:Bool)=>k23 t38 h_52))
set_option maxHeartbeats 4000000 in
set_option maxRecDepth 20000 in
theorem z366{call:z11}(hc:SaysAll Try.prog call){n:Nat}{t0:Bytes}{h:AHeap}{rR:ARes}{hR:AHeap}(hF:z158 call n t0 h=some (rR,hR)):Says Try.prog 63 [zc t0] h rR hR:=by
 unfold z158 at hF;refine sO Try.func63 fun w0 m0=>wW [(0,zc t0)] (oG fun n1=>W.r (oA 2 (zc ([]:Bytes)) (oA 3 (.int .i64 0) (oA 4 (.int .i64 0) (oV [(0,zc t0)] (n1 (oH fun n2 q2=>oG fun n3=>W.r (oA 7 (zc t0) (oA 8 (.int .i64 (z65 t0)) (oB 9 hF fun t9 hF=>oV [(0,zc t0),(9,.bool t9)] (n3 ?_)))))))))))
 cases t9 with
 |true=>
  exact oT hF fun hF=>oG fun n5=>W.r (oA 2 (zc ([]:Bytes)) (oA 3 (.int .i64 0) (oA 4 (.int .i64 30) (oV [(2,zc ([]:Bytes)),(3,.int .i64 0),(4,.int .i64 30)] (n5 (oY (q2 (lZ hF [.tmp 2,.tmp 3,.tmp 4] [zc ([]:Bytes),.int .i64 0,.int .i64 30] (rT (rT (rT zd)))))))))))
 |false=>
  refine oU hF fun hF=>oZ (n2 (oG fun n6=>y14 (by kernel_rfl) (hc.ok w0) (plan:=[0,1,2,3,4,5,6,7,8,9,10,11,12,13,14,15,16,17,18]) (by kernel_rfl) (by kernel_rfl) (by kernel_rfl) (WD.a 0 (some 10) (zc t0) h ?_)));obtain⟨t11,e7,hF⟩:=z3 hF;refine WD.b 0 (some 11) (.int .u8 t11) h (z178 (P:=Try.prog) (h:=h) (t:=9) (k:=.i64) (by kernel_rfl) e7) ?_;obtain⟨t12,e8,hF⟩:=z9 hF;refine WD.val (d:=(some 12)) (v:=.int .i64 t12) (h':=h) (by kernel_rfl) (by kernel_rfl) (z2a (AV.int .i64) e8 (by kernel_rfl)) (k:=0) (by kernel_rfl) (fun e=>absurd e (by decide)) (by decide) ?_;obtain⟨t13,e9,hF⟩:=z9 hF;refine WD.val (d:=(some 13)) (v:=.int .i64 t13) (h':=h) (by kernel_rfl) (by kernel_rfl) (z2a (AV.int .i64) e9 (by kernel_rfl)) (k:=0) (by kernel_rfl) (fun e=>absurd e (by decide)) (by decide) (WD.a 0 (some 14) (zc t0) h ?_);obtain⟨t15,e10,hF⟩:=z3 hF;refine WD.b 0 (some 15) (.int .u8 t15) h (z178 (P:=Try.prog) (h:=h) (t:=9) (k:=.i64) (by kernel_rfl) e10) ?_;obtain⟨t16,e11,hF⟩:=z9 hF;refine WD.val (d:=(some 16)) (v:=.int .i64 t16) (h':=h) (by kernel_rfl) (by kernel_rfl) (z2a (AV.int .i64) e11 (by kernel_rfl)) (k:=0) (by kernel_rfl) (fun e=>absurd e (by decide)) (by decide) ?_;obtain⟨t17,e12,hF⟩:=z9 hF;refine WD.val (d:=(some 17)) (v:=.int .i64 t17) (h':=h) (by kernel_rfl) (by kernel_rfl) (z2a (AV.int .i64) e12 (by kernel_rfl)) (k:=0) (by kernel_rfl) (fun e=>absurd e (by decide)) (by decide) ?_;obtain⟨t18,e13,hF⟩:=z9 hF;refine WD.val (d:=(some 18)) (v:=.int .i64 t18) (h':=h) (by kernel_rfl) (by kernel_rfl) (z2a (AV.int .i64) e13 (by kernel_rfl)) (k:=0) (by kernel_rfl) (fun e=>absurd e (by decide)) (by decide) (WD.a 0 (some 19) (zc t0) h ?_);obtain⟨t20,e14,hF⟩:=z3 hF;refine WD.b 0 (some 20) (.int .u8 t20) h (z178 (P:=Try.prog) (h:=h) (t:=9) (k:=.i64) (by kernel_rfl) e14) ?_;obtain⟨t21,e15,hF⟩:=z9 hF;refine WD.val (d:=(some 21)) (v:=.int .i64 t21) (h':=h) (by kernel_rfl) (by kernel_rfl) (z2a (AV.int .i64) e15 (by kernel_rfl)) (k:=0) (by kernel_rfl) (fun e=>absurd e (by decide)) (by decide) ?_;obtain⟨t22,e16,hF⟩:=z9 hF;refine WD.val (d:=(some 22)) (v:=.int .i64 t22) (h':=h) (by kernel_rfl) (by kernel_rfl) (z2a (AV.int .i64) e16 (by kernel_rfl)) (k:=0) (by kernel_rfl) (fun e=>absurd e (by decide)) (by decide) ?_;obtain⟨t23,e17,hF⟩:=z9 hF;refine WD.val (d:=(some 23)) (v:=.int .i64 t23) (h':=h) (by kernel_rfl) (by kernel_rfl) (z2a (AV.int .i64) e17 (by kernel_rfl)) (k:=0) (by kernel_rfl) (fun e=>absurd e (by decide)) (by decide) (WD.a 0 (some 24) (zc t0) h ?_);obtain⟨t25,e18,hF⟩:=z3 hF;refine WD.b 0 (some 25) (.int .u8 t25) h (z178 (P:=Try.prog) (h:=h) (t:=9) (k:=.i64) (by kernel_rfl) e18) ?_;obtain⟨t26,e19,hF⟩:=z9 hF;refine WD.val (d:=(some 26)) (v:=.int .i64 t26) (h':=h) (by kernel_rfl) (by kernel_rfl) (z2a (AV.int .i64) e19 (by kernel_rfl)) (k:=0) (by kernel_rfl) (fun e=>absurd e (by decide)) (by decide) ?_;obtain⟨t27,e20,hF⟩:=z9 hF;refine WD.val (d:=(some 27)) (v:=.int .i64 t27) (h':=h) (by kernel_rfl) (by kernel_rfl) (z2a (AV.int .i64) e20 (by kernel_rfl)) (k:=0) (by kernel_rfl) (fun e=>absurd e (by decide)) (by decide) (WD.a 0 (some 5) (.int .i64 t27) h (WD.nil (gW [(0,zc t0),(5,.int .i64 t27)] (n6 (oH fun n21 q21=>W.s (fun K22 n22 e22 q22 p22=>?_))))));obtain⟨k23,e23,hF⟩:=z9 hF
  have J23:∀(t39:Bool) (h_24:AHeap),k23 t39 h_24=some (rR,hR)→Go w0 m0 (Func.ntmps Try.f63) (K22 .normal) [(0,zc t0),(5,.int .i64 t27),(39,.bool t39)] [] h_24:=by
   intro t39 h_24 hF;rw[e23] at hF;refine n22 ?_
   cases t39 with
   |true=>
    exact oT hF fun hF=>oG fun n25=>W.r (oA 2 (zc ([]:Bytes)) (oA 3 (.int .i64 0) (oA 4 (.int .i64 7) (oV [(2,zc ([]:Bytes)),(3,.int .i64 0),(4,.int .i64 7)] (n25 (oY (q21 (lZ hF [.tmp 2,.tmp 3,.tmp 4] [zc ([]:Bytes),.int .i64 0,.int .i64 7] (rT (rT (rT zd)))))))))))
   |false=>
    refine oU hF fun hF=>oZ (n21 (oH fun n26 q26=>oG fun n27=>W.r (oA 40 (zc t0) (oA 41 (.int .i64 (z65 t0)) (oA 42 (.int .i64 t27) (oI 43 .i64 hF fun t43 hF=>oB 44 hF fun t44 hF=>oV [(0,zc t0),(5,.int .i64 t27),(44,.bool t44)] (n27 ?_)))))))
    cases t44 with
    |true=>
     exact oT hF fun hF=>oG fun n30=>W.r (oA 2 (zc ([]:Bytes)) (oA 3 (.int .i64 0) (oA 4 (.int .i64 30) (oV [(2,zc ([]:Bytes)),(3,.int .i64 0),(4,.int .i64 30)] (n30 (oY (q26 (lZ hF [.tmp 2,.tmp 3,.tmp 4] [zc ([]:Bytes),.int .i64 0,.int .i64 30] (rT (rT (rT zd)))))))))))
    |false=>
     refine oU hF fun hF=>oZ (n26 (oG fun n31=>W.r (oA 45 (zc t0) (oA 46 (.int .i64 t27) (oI 47 .i64 hF fun t47 hF=>?_)))));obtain⟨t48,e33,hF⟩:=z3 hF;refine WL.b (some 48) (zc t48) h_24 (z6b (P:=Try.prog) (h:=h_24) (t:=9) (A:=(some (.int .i64 8))) (B:=(some (.int .i64 t47))) (by kernel_rfl) (.inl ⟨_,rfl⟩) (.inl ⟨_,rfl⟩) e33) (oA 6 (zc t48) (oV [(0,zc t0),(5,.int .i64 t27),(6,zc t48)] (n31 (oH fun n34 q34=>oG fun n35=>y14 (by kernel_rfl) (hc.ok w0) (plan:=[0,2,3,4,5,1,6]) (by kernel_rfl) (by kernel_rfl) (by kernel_rfl) (WD.a 0 (some 49) (zc t48) h_24 (WD.a 0 (some 51) (zc t0) h_24 (WD.a 0 (some 52) (.int .i64 t27) h_24 ?_)))))));obtain⟨t53,e36,hF⟩:=z9 hF;refine WD.val (d:=(some 53)) (v:=.int .i64 t53) (h':=h_24) (by kernel_rfl) (by kernel_rfl) (z2a (AV.int .i64) e36 (by kernel_rfl)) (k:=0) (by kernel_rfl) (fun e=>absurd e (by decide)) (by decide) ?_;obtain⟨t54,e37,hF⟩:=z3 hF;refine WD.b 0 (some 54) (zc t54) h_24 (z6b (P:=Try.prog) (h:=h_24) (t:=9) (A:=none) (B:=(some (.int .i64 t53))) (by kernel_rfl) (.inr ⟨rfl,rfl⟩) (.inl ⟨_,rfl⟩) e37) ?_
     replace hF:=z1b hF;obtain⟨r50,h_38,e39,hF⟩:=hF
     replace hF:=z3 hF;obtain⟨t50,c40,hF⟩:=hF
     have c40:=z1d c40;subst c40;refine WD.call (d:=(some 50)) (by kernel_rfl) (by kernel_rfl) (by kernel_rfl) e39 (k:=2) (by kernel_rfl) (fun _=>(by kernel_rfl)) (by decide) ?_;obtain⟨t55,e41,hF⟩:=z9 hF;refine WD.val (d:=(some 55)) (v:=.bool t55) (h':=h_38) (by kernel_rfl) (by kernel_rfl) (z2a AV.bool e41 (by kernel_rfl)) (k:=0) (by kernel_rfl) (fun e=>absurd e (by decide)) (by decide) (WD.nil (gW [(5,.int .i64 t27),(6,zc t48),(55,.bool t55)] (n35 ?_)))
     cases t55 with
     |true=>
      exact oT hF fun hF=>oG fun n42=>W.r (oA 2 (zc ([]:Bytes)) (oA 3 (.int .i64 0) (oA 4 (.int .i64 7) (oV [(2,zc ([]:Bytes)),(3,.int .i64 0),(4,.int .i64 7)] (n42 (oY (q34 (lZ hF [.tmp 2,.tmp 3,.tmp 4] [zc ([]:Bytes),.int .i64 0,.int .i64 7] (rT (rT (rT zd)))))))))))
     |false=>
      exact oU hF fun hF=>oZ (n34 (oG fun n43=>W.r (oA 56 (zc t48) (oA 57 (.int .i64 t27) (oI 58 .i64 hF fun t58 hF=>oA 2 (zc t48) (oA 3 (.int .i64 t58) (oA 4 (.int .i64 0) (oV [(2,zc t48),(3,.int .i64 t58),(4,.int .i64 0)] (n43 (oY (lZ hF [.tmp 2,.tmp 3,.tmp 4] [zc t48,.int .i64 t58,.int .i64 0] (rT (rT (rT zd))))))))))))))
  refine y14 (by kernel_rfl) (hc.ok w0) (plan:=[0,1,2,3,4,8,9,5,6,7,10,11]) (by kernel_rfl) (by kernel_rfl) (by kernel_rfl) (WD.a 0 (some 28) (.int .i64 t27) h ?_);obtain⟨t29,e45,hF⟩:=z9 hF;refine WD.val (d:=(some 29)) (v:=.bool t29) (h':=h) (by kernel_rfl) (by kernel_rfl) (z2a AV.bool e45 (by kernel_rfl)) (k:=0) (by kernel_rfl) (fun e=>absurd e (by decide)) (by decide) (WD.a 0 (some 30) (.bool t29) h ?_)
  cases t29 with
  |true=>
   replace hF:=z55 hF
   exact oD 0 (some 31) (oD 0 (some 32) (oD 0 (some 36) (oD 0 (some 37) (WD.not (d:=(some 33)) (by kernel_rfl) (by kernel_rfl) (k:=2) (by kernel_rfl) (fun _=>(by kernel_rfl)) (by decide) (oD 0 (some 34) (WD.not (d:=(some 35)) (by kernel_rfl) (by kernel_rfl) (k:=2) (by kernel_rfl) (fun _=>(by kernel_rfl)) (by decide) (oD 0 (some 38) (WD.a 0 (some 39) (.bool true) h (WD.nil (gW _ (J23 _ _ hF)))))))))))
  |false=>
   replace hF:=z56 hF
   refine WD.a 0 (some 31) (zc t0) h ?_;obtain⟨t32,e46,hF⟩:=z3 hF;refine WD.b 0 (some 32) (zc t32) h (z6b (P:=Try.prog) (h:=h) (t:=9) (A:=none) (B:=(some (.int .i64 4))) (by kernel_rfl) (.inr ⟨rfl,rfl⟩) (.inl ⟨_,rfl⟩) e46) (WD.a 0 (some 36) (zc t0) h ?_);obtain⟨t37,e47,hF⟩:=z3 hF;refine WD.b 0 (some 37) (zc t37) h (z6b (P:=Try.prog) (h:=h) (t:=9) (A:=(some (.int .i64 4))) (B:=(some (.int .i64 8))) (by kernel_rfl) (.inl ⟨_,rfl⟩) (.inl ⟨_,rfl⟩) e47) ?_
   replace hF:=z1b hF;obtain⟨r33,h_48,e49,hF⟩:=hF
   replace hF:=z3 hF;obtain⟨t33,c50,hF⟩:=hF
   have c50:=z19 c50;subst c50;refine WD.call (d:=(some 33)) (by kernel_rfl) (by kernel_rfl) (by kernel_rfl) e49 (k:=2) (by kernel_rfl) (fun _=>(by kernel_rfl)) (by decide) ?_;obtain⟨t34,e51,hF⟩:=z9 hF;refine WD.val (d:=(some 34)) (v:=.int .u64 t34) (h':=h_48) (by kernel_rfl) (by kernel_rfl) (z2a (AV.int .u64) e51 (by kernel_rfl)) (k:=0) (by kernel_rfl) (fun e=>absurd e (by decide)) (by decide) ?_
   replace hF:=z1b hF;obtain⟨r35,h_52,e53,hF⟩:=hF
   replace hF:=z3 hF;obtain⟨t35,c54,hF⟩:=hF
   have c54:=z1d c54;subst c54;refine WD.call (d:=(some 35)) (by kernel_rfl) (by kernel_rfl) (by kernel_rfl) e53 (k:=2) (by kernel_rfl) (fun _=>(by kernel_rfl)) (by decide) ?_;obtain⟨t38,e55,hF⟩:=z9 hF;exact WD.val (d:=(some 38)) (v:=.bool t38) (h':=h_52) (by kernel_rfl) (by kernel_rfl) (z2a AV.bool e55 (by kernel_rfl)) (k:=0) (by kernel_rfl) (fun e=>absurd e (by decide)) (by decide) (WD.a 0 (some 39) (.bool t38) h_52 (WD.nil (gW _ (J23 _ _ hF))))
noncomputable def z197(call:z11)(_:Nat)(t0:Bytes)(h:AHeap):R:=lett (IntKind.u64.wrap (z65 t0)) fun (t6:Int)=>callN (call 70 [.int .u64 t6,.int .i64 4] h) fun r7 h_4=>obind (z2c r7) fun t7=>callN (call 84 [zc t7] h_4) fun r10 h_8=>obind (z16 .u32 r10) fun t10=>lett (IntKind.u64.wrap t10) fun (t11:Int)=>callN (call 70 [.int .u64 t11,.int .i64 4] h_8) fun r12 h_12=>obind (z2c r12) fun t12=>obind (z350 t7 t12) fun t13=>obind (z350 t13 t0) fun t15=>callN (call 84 [zc t0] h_12) fun r17 h_17=>obind (z16 .u32 r17) fun t17=>lett (IntKind.u64.wrap t17) fun (t18:Int)=>callN (call 70 [.int .u64 t18,.int .i64 4] h_17) fun r19 h_21=>obind (z2c r19) fun t19=>obind (z350 t15 t19) fun t20=>some (.ret (zc t20),h_21)
set_option maxHeartbeats 4000000 in
set_option maxRecDepth 20000 in
theorem z3bf{call:z11}(hc:SaysAll Try.prog call){n:Nat}{t0:Bytes}{h:AHeap}{rR:ARes}{hR:AHeap}(hF:z197 call n t0 h=some (rR,hR)):Says Try.prog 69 [zc t0] h rR hR:=by
 unfold z197 at hF;refine sO Try.func69 fun w0 m0=>wW [(0,zc t0)] (oG fun n1=>W.r (oA 2 (zc ([]:Bytes)) (oV [(0,zc t0)] (n1 (oG fun n2=>W.r (oA 4 (zc t0) (oA 5 (.int .i64 (z65 t0)) (oI 6 .u64 hF fun t6 hF=>oCs hc 7 hF fun t7 h_4 hF=>oA 3 (zc t7) (oV [(0,zc t0),(3,zc t7)] (n2 (oG fun n7=>W.r (oA 8 (zc t7) (oA 9 (zc t7) (oCi hc 10 hF fun t10 h_8 hF=>oI 11 .u64 hF fun t11 hF=>oCs hc 12 hF fun t12 h_12 hF=>?_))))))))))))));obtain⟨t13,e15,hF⟩:=z3 hF;refine WL.b (some 13) (zc t13) h_12 (z125 (P:=Try.prog) (h:=h_12) (t:=9) (lit:=false) e15) (oA 14 (zc t0) ?_);obtain⟨t15,e16,hF⟩:=z3 hF;refine WL.b (some 15) (zc t15) h_12 (z125 (P:=Try.prog) (h:=h_12) (t:=9) (lit:=false) e16) (oA 16 (zc t0) (oCi hc 17 hF fun t17 h_17 hF=>oI 18 .u64 hF fun t18 hF=>oCs hc 19 hF fun t19 h_21 hF=>?_));obtain⟨t20,e24,hF⟩:=z3 hF;exact WL.b (some 20) (zc t20) h_21 (z125 (P:=Try.prog) (h:=h_21) (t:=9) (lit:=false) e24) (oA 2 (zc t20) (oV [(2,zc t20)] (n7 (oY (lZ hF [.tmp 2] [zc t20] (rT zd))))))
noncomputable def zb9(v8:AV)(k9:AHeap→R)(self:Int→Int→AHeap→R)(t0_16:Int)(t6:Int)(h_17:AHeap):R:=lett (decide (t6≥0)) fun (t12:Bool)=>ifB t12 (obind (remI .u64 t0_16 256) fun t18=>lett (IntKind.u8.wrap t18) fun (t19:Int)=>obind (z17a 1 v8 t6) fun t20=>obind (z22 h_17 1 [.int .u8 t19] t20) fun h_27=>obind (quoI .u64 t0_16 256) fun t22=>lett (IntKind.i64.wrap (t6 - 1)) fun (t14:Int)=>self t22 t14 h_27) (k9 h_17)
noncomputable def za6(v8:AV)(k9:AHeap→R):Nat→Int→Int→AHeap→R:=z143 (fun _ _ _=>none) (zb9 v8 k9)
theorem z12f(v8:AV)(k9:AHeap→R)(m:Nat):za6 v8 k9 (m+1)=zb9 v8 k9 (za6 v8 k9 m):=rfl
noncomputable def z109(_:z11)(n:Nat)(t0:Int)(t1:Int)(h:AHeap):R:=outK (z130 Try.prog h 37 (some (.int .i64 t1)) (some (.int .i64 t1))) fun v8 h_3=>lett (IntKind.i64.wrap (t1 - 1)) fun (t10:Int)=>lett (fun (h_10:AHeap)=>outK (z10b Try.prog h_10 37 9 (some v8)) fun v24 h_12=>obind (z2c v24) fun t24=>some (.ret (zc t24),h_12)) fun k9=>za6 v8 k9 n t0 t10 h_3
set_option maxHeartbeats 4000000 in
set_option maxRecDepth 20000 in
theorem z2d5{call:z11}(_:SaysAll Try.prog call){n:Nat}{t0:Int}{t1:Int}{h:AHeap}{rR:ARes}{hR:AHeap}(hF:z109 call n t0 t1 h=some (rR,hR)):Says Try.prog 70 [.int .u64 t0,.int .i64 t1] h rR hR:=by
 unfold z109 at hF;refine sO Try.func70 fun w0 m0=>wW [(0,.int .u64 t0),(1,.int .i64 t1)] (oG fun n1=>W.r (oA 4 (zc ([]:Bytes)) (oV [(0,.int .u64 t0),(1,.int .i64 t1)] (n1 (oG fun n2=>W.r (oA 7 (.int .i64 t1) (oK 8 hF fun v8 h_3 hF=>oA 5 v8 (oV [(0,.int .u64 t0),(1,.int .i64 t1),(5,v8)] (n2 (W.s (fun K5 n5 e5 q5 p5=>oG fun n6=>W.r (oA 9 (.int .i64 t1) (oI 10 .i64 hF fun t10 hF=>oA 6 (.int .i64 t10) (oV [(0,.int .u64 t0),(5,v8),(6,.int .i64 t10)] (n6 ?_)))))))))))))));obtain⟨k9,e9,hF⟩:=z9 hF
 have J9:∀(h_10:AHeap),k9 h_10=some (rR,hR)→Go w0 m0 (Func.ntmps Try.f70) (K5 .normal) [(5,v8)] [] h_10:=by
  intro h_10 hF;rw[e9] at hF;refine n5 (oG fun n11=>W.r (oA 23 v8 ?_))
  replace hF:=z1e hF;obtain⟨v24,h_12,e13,hF⟩:=hF
  replace hF:=z3 hF;obtain⟨t24,c14,hF⟩:=hF
  have c14:=z1d c14;subst c14;exact WL.b (some 24) (zc t24) h_12 e13 (oA 4 (zc t24) (oV [(4,zc t24)] (n11 (oY (lZ hF [.tmp 4] [zc t24] (rT zd))))))
 refine W.blockK (by kernel_rfl) (fun K8 n8 s8 o8 q8 p8=>W.loopK (by kernel_rfl) (fun I15 K15 b15 n15 e15 q15 p15=>?_))
 have L15:∀(m:Nat) (t0_16:Int) (t6:Int) (h_17:AHeap),za6 v8 k9 m t0_16 t6 h_17=some (rR,hR)→Go w0 m0 (Func.ntmps Try.f70) I15 [(0,.int .u64 t0_16),(5,v8),(6,.int .i64 t6)] [] h_17:=by
  intro m
  induction m with
  |zero=>intro t0_16 t6 h_17 hF;cases hF
  |succ m ih15=>
   intro t0_16 t6 h_17 hF;rw[z12f] at hF;unfold zb9 at hF;refine b15 (W.s (fun K18 n18 e18 q18 p18=>oG fun n19=>W.r (oA 11 (.int .i64 t6) (oB 12 hF fun t12 hF=>oV [(0,.int .u64 t0_16),(5,v8),(6,.int .i64 t6),(12,.bool t12)] (n19 ?_)))))
   cases t12 with
   |true=>
    refine oT hF fun hF=>oZ (n18 (oG fun n21=>W.blockK (by kernel_rfl) (fun K22 n22 s22 o22 q22 p22=>oG fun n23=>W.r (oA 15 v8 (oA 16 (.int .i64 t6) (oA 17 (.int .u64 t0_16) ?_))))));obtain⟨t18,e24,hF⟩:=z3 hF;refine WL.b (some 18) (.int .u64 t18) h_17 (z2d3 (P:=Try.prog) (h:=h_17) (t:=127) (lit:=true) e24) (oI 19 .u8 hF fun t19 hF=>oP 20 37 5 .i64 hF fun t20 hF=>oW 5 (.int .u8 t19) hF fun h_27 hF=>oV [(0,.int .u64 t0_16),(5,v8),(6,.int .i64 t6)] (n23 (W.r (oA 21 (.int .u64 t0_16) ?_))));obtain⟨t22,e29,hF⟩:=z3 hF;exact WL.b (some 22) (.int .u64 t22) h_27 (z418 (P:=Try.prog) (h:=h_27) (t:=127) (lit:=true) e29) (oA 0 (.int .u64 t22) (oV [(0,.int .u64 t22),(5,v8),(6,.int .i64 t6)] (n22 (n21 (W.r (oA 13 (.int .i64 t6) (oI 14 .i64 hF fun t14 hF=>oA 6 (.int .i64 t14) (oV [(0,.int .u64 t22),(5,v8),(6,.int .i64 t14)] (n15 (gW _ (ih15 _ _ _ hF)))))))))))
   |false=>
    exact oU hF fun hF=>W.exit (by kernel_rfl) (e18 (e15 (s8 (by kernel_rfl) (gW _ (J9 _ hF)))))
 exact gW _ (L15 _ _ _ _ hF)
noncomputable def z15c(call:z11)(_:Nat)(t0:Bytes)(h:AHeap):R:=lett (IntKind.u64.wrap (z65 t0)) fun (t5:Int)=>callN (call 70 [.int .u64 t5,.int .i64 4] h) fun r6 h_4=>obind (z2c r6) fun t6=>obind (z350 t6 t0) fun t8=>some (.ret (zc t8),h_4)
set_option maxHeartbeats 4000000 in
set_option maxRecDepth 20000 in
theorem z36a{call:z11}(hc:SaysAll Try.prog call){n:Nat}{t0:Bytes}{h:AHeap}{rR:ARes}{hR:AHeap}(hF:z15c call n t0 h=some (rR,hR)):Says Try.prog 71 [zc t0] h rR hR:=by
 unfold z15c at hF;refine sO Try.func71 fun w0 m0=>wW [(0,zc t0)] (oG fun n1=>W.r (oA 2 (zc ([]:Bytes)) (oV [(0,zc t0)] (n1 (oG fun n2=>W.r (oA 3 (zc t0) (oA 4 (.int .i64 (z65 t0)) (oI 5 .u64 hF fun t5 hF=>oCs hc 6 hF fun t6 h_4 hF=>oA 7 (zc t0) ?_))))))));obtain⟨t8,e7,hF⟩:=z3 hF;exact WL.b (some 8) (zc t8) h_4 (z125 (P:=Try.prog) (h:=h_4) (t:=9) (lit:=false) e7) (oA 2 (zc t8) (oV [(2,zc t8)] (n2 (oY (lZ hF [.tmp 2] [zc t8] (rT zd))))))
noncomputable def z72(t0:AV)(t1:Int)(k40:Int→AHeap→R)(self:Int→Int→AHeap→R)(t5_54:Int)(t6:Int)(h_55:AHeap):R:=lett (decide (t6<t1)) fun (t36:Bool)=>ifB t36 (lett (IntKind.u64.wrap (t5_54*256)) fun (t40:Int)=>obind (z39 t0) fun t42=>obind (z21 0 t42) fun t43=>obind (ze h_55 t43) fun v44=>obind (z2c v44) fun t44=>obind (z39 t0) fun t46=>obind (z21 1 t46) fun t47=>obind (ze h_55 t47) fun v48=>obind (z16 .i64 v48) fun t48=>lett (IntKind.i64.wrap (t48+t6)) fun (t50:Int)=>obind (z398 t44 t50) fun t51=>lett (IntKind.u64.wrap t51) fun (t52:Int)=>lett (IntKind.u64.wrap (t40+t52)) fun (t53:Int)=>lett (IntKind.i64.wrap (t6+1)) fun (t38:Int)=>self t53 t38 h_55) (k40 t5_54 h_55)
noncomputable def z5b(t0:AV)(t1:Int)(k40:Int→AHeap→R):Nat→Int→Int→AHeap→R:=z143 (fun _ _ _=>none) (z72 t0 t1 k40)
theorem z108(t0:AV)(t1:Int)(k40:Int→AHeap→R)(m:Nat):z5b t0 t1 k40 (m+1)=z72 t0 t1 k40 (z5b t0 t1 k40 m):=rfl
noncomputable def z61(_:z11)(n:Nat)(t0:AV)(t1:Int)(h:AHeap):R:=obind (z39 t0) fun t8=>obind (z21 2 t8) fun t9=>obind (ze h t9) fun v10=>obind (z16 .i64 v10) fun t10=>lett ((t10:Int) != 0) fun (t11:Bool)=>ifB t11 (some (.ret (.int .u64 0),h)) (obind (z39 t0) fun t13=>obind (z21 0 t13) fun t14=>obind (ze h t14) fun v15=>obind (z2c v15) fun t15=>obind (z39 t0) fun t18=>obind (z21 1 t18) fun t19=>obind (ze h t19) fun v20=>obind (z16 .i64 v20) fun t20=>lett (IntKind.i64.wrap ((z65 t15) - t20)) fun (t21:Int)=>lett (decide (t21<t1)) fun (t23:Bool)=>ifB t23 (obind (z39 t0) fun t27=>obind (z21 1 t27) fun t28=>obind (ze h t28) fun v29=>obind (z16 .i64 v29) fun t29=>obind (z39 t0) fun t30=>obind (z21 2 t30) fun t31=>obind (z22 h 1 [.int .i64 7] t31) fun h_29=>obind (z39 t0) fun t32=>obind (z21 3 t32) fun t33=>obind (z22 h_29 1 [.int .i64 t29] t33) fun h_33=>some (.ret (.int .u64 0),h_33)) (lett (fun (t5:Int) (h_41:AHeap)=>obind (z39 t0) fun t56=>obind (z21 1 t56) fun t57=>obind (ze h_41 t57) fun v58=>obind (z16 .i64 v58) fun t58=>lett (IntKind.i64.wrap (t58+t1)) fun (t60:Int)=>obind (z39 t0) fun t61=>obind (z21 1 t61) fun t62=>obind (z22 h_41 1 [.int .i64 t60] t62) fun h_50=>some (.ret (.int .u64 t5),h_50)) fun k40=>z5b t0 t1 k40 n 0 0 h))
set_option maxHeartbeats 4000000 in
set_option maxRecDepth 20000 in
theorem z1c1{call:z11}(hc:SaysAll Try.prog call){n:Nat}{t0:AV}{t1:Int}{h:AHeap}{rR:ARes}{hR:AHeap}(hF:z61 call n t0 t1 h=some (rR,hR)):Says Try.prog 65 [t0,.int .i64 t1] h rR hR:=by
 unfold z61 at hF;refine sO Try.func65 fun w0 m0=>wW [(0,t0),(1,.int .i64 t1)] (oG fun n1=>W.r (oA 4 (.int .u64 0) (oV [(0,t0),(1,.int .i64 t1)] (n1 (oH fun n2 q2=>oG fun n3=>W.r (oA 7 t0 (oC0 8 hF fun t8 hF=>oF 9 134 2 hF fun t9 hF=>oLi 10 3 hF fun t10 hF=>oB 11 hF fun t11 hF=>oV [(0,t0),(1,.int .i64 t1),(11,.bool t11)] (n3 ?_))))))))
 cases t11 with
 |true=>
  exact oT hF fun hF=>oG fun n9=>W.r (oA 4 (.int .u64 0) (oV [(4,.int .u64 0)] (n9 (oY (q2 (lZ hF [.tmp 4] [.int .u64 0] (rT zd)))))))
 |false=>
  refine oU hF fun hF=>oZ (n2 (oH fun n10 q10=>oG fun n11=>y14 (by kernel_rfl) (hc.ok w0) (plan:=[0,1,2,3,4,5,6,7,8,9,10,11]) (by kernel_rfl) (by kernel_rfl) (by kernel_rfl) (WD.a 0 (some 12) t0 h ?_)));obtain⟨t13,e12,hF⟩:=z3 hF;refine WD.b 0 (some 13) t13 h (z24 (h:=h) e12) ?_;obtain⟨t14,e13,hF⟩:=z3 hF;refine WD.b 0 (some 14) t14 h (z15 (P:=Try.prog) (h:=h) (s:=134) (f:=0) (by kernel_rfl) e13) ?_
  replace hF:=z3 hF;obtain⟨v15,e14,hF⟩:=hF
  replace hF:=z3 hF;obtain⟨t15,c15,hF⟩:=hF
  have c15:=z1d c15;subst c15;refine WD.b 1 (some 15) (zc t15) h (z14 (P:=Try.prog) (h:=h) (t:=9) (by kernel_rfl) e14) (WD.a 0 (some 16) (.int .i64 (z65 t15)) h (WD.a 0 (some 17) t0 h ?_));obtain⟨t18,e16,hF⟩:=z3 hF;refine WD.b 0 (some 18) t18 h (z24 (h:=h) e16) ?_;obtain⟨t19,e17,hF⟩:=z3 hF;refine WD.b 0 (some 19) t19 h (z15 (P:=Try.prog) (h:=h) (s:=134) (f:=1) (by kernel_rfl) e17) ?_
  replace hF:=z3 hF;obtain⟨v20,e18,hF⟩:=hF
  replace hF:=z3 hF;obtain⟨t20,c19,hF⟩:=hF
  have c19:=z19 c19;subst c19;refine WD.b 1 (some 20) (.int .i64 t20) h (z14 (P:=Try.prog) (h:=h) (t:=3) (by kernel_rfl) e18) ?_;obtain⟨t21,e20,hF⟩:=z9 hF;refine WD.val (d:=(some 21)) (v:=.int .i64 t21) (h':=h) (by kernel_rfl) (by kernel_rfl) (z2a (AV.int .i64) e20 (by kernel_rfl)) (k:=0) (by kernel_rfl) (fun e=>absurd e (by decide)) (by decide) (WD.a 0 (some 22) (.int .i64 t1) h ?_);obtain⟨t23,e21,hF⟩:=z9 hF;refine WD.val (d:=(some 23)) (v:=.bool t23) (h':=h) (by kernel_rfl) (by kernel_rfl) (z2a AV.bool e21 (by kernel_rfl)) (k:=0) (by kernel_rfl) (fun e=>absurd e (by decide)) (by decide) (WD.nil (gW [(0,t0),(1,.int .i64 t1),(23,.bool t23)] (n11 ?_)))
  cases t23 with
  |true=>
   exact oT hF fun hF=>oG fun n22=>W.r (oA 24 t0 (oA 25 t0 (oA 26 t0 (oC0 27 hF fun t27 hF=>oF 28 134 1 hF fun t28 hF=>oLi 29 3 hF fun t29 hF=>oC0 30 hF fun t30 hF=>oF 31 134 2 hF fun t31 hF=>oW 3 (.int .i64 7) hF fun h_29 hF=>oC0 32 hF fun t32 hF=>oF 33 134 3 hF fun t33 hF=>oW 3 (.int .i64 t29) hF fun h_33 hF=>oV [] (n22 (oG fun n35=>W.r (oA 4 (.int .u64 0) (oV [(4,.int .u64 0)] (n35 (oY (q10 (lZ hF [.tmp 4] [.int .u64 0] (rT zd)))))))))))))
  |false=>
   refine oU hF fun hF=>oZ (n10 (oG fun n36=>W.r (oA 5 (.int .u64 0) (oV [(0,t0),(1,.int .i64 t1),(5,.int .u64 0)] (n36 (W.s (fun K37 n37 e37 q37 p37=>oG fun n38=>W.r (oA 6 (.int .i64 0) (oV [(0,t0),(1,.int .i64 t1),(5,.int .u64 0),(6,.int .i64 0)] (n38 ?_))))))))));obtain⟨k40,e40,hF⟩:=z9 hF
   have J40:∀(t5:Int) (h_41:AHeap),k40 t5 h_41=some (rR,hR)→Go w0 m0 (Func.ntmps Try.f65) (K37 .normal) [(0,t0),(1,.int .i64 t1),(5,.int .u64 t5)] [] h_41:=by
    intro t5 h_41 hF;rw[e40] at hF;exact n37 (oG fun n42=>W.r (oA 54 t0 (oA 55 t0 (oC0 56 hF fun t56 hF=>oF 57 134 1 hF fun t57 hF=>oLi 58 3 hF fun t58 hF=>oA 59 (.int .i64 t1) (oI 60 .i64 hF fun t60 hF=>oC0 61 hF fun t61 hF=>oF 62 134 1 hF fun t62 hF=>oW 3 (.int .i64 t60) hF fun h_50 hF=>oV [(5,.int .u64 t5)] (n42 (oG fun n52=>W.r (oA 63 (.int .u64 t5) (oA 4 (.int .u64 t5) (oV [(4,.int .u64 t5)] (n52 (oY (lZ hF [.tmp 4] [.int .u64 t5] (rT zd))))))))))))))
   refine W.blockK (by kernel_rfl) (fun K39 n39 s39 o39 q39 p39=>W.loopK (by kernel_rfl) (fun I53 K53 b53 n53 e53 q53 p53=>?_))
   have L53:∀(m:Nat) (t5_54:Int) (t6:Int) (h_55:AHeap),z5b t0 t1 k40 m t5_54 t6 h_55=some (rR,hR)→Go w0 m0 (Func.ntmps Try.f65) I53 [(0,t0),(1,.int .i64 t1),(5,.int .u64 t5_54),(6,.int .i64 t6)] [] h_55:=by
    intro m
    induction m with
    |zero=>intro t5_54 t6 h_55 hF;cases hF
    |succ m ih53=>
     intro t5_54 t6 h_55 hF;rw[z108] at hF;unfold z72 at hF;refine b53 (W.s (fun K56 n56 e56 q56 p56=>oG fun n57=>W.r (oA 34 (.int .i64 t6) (oA 35 (.int .i64 t1) (oB 36 hF fun t36 hF=>oV [(0,t0),(1,.int .i64 t1),(5,.int .u64 t5_54),(6,.int .i64 t6),(36,.bool t36)] (n57 ?_))))))
     cases t36 with
     |true=>
      refine oT hF fun hF=>oZ (n56 (oG fun n59=>W.blockK (by kernel_rfl) (fun K60 n60 s60 o60 q60 p60=>y14 (by kernel_rfl) (hc.ok w0) (plan:=[0,1,2,3,4,5,6,7,8,9,10,11,12,13,14,15]) (by kernel_rfl) (by kernel_rfl) (by kernel_rfl) (WD.a 0 (some 39) (.int .u64 t5_54) h_55 ?_))));obtain⟨t40,e61,hF⟩:=z9 hF;refine WD.val (d:=(some 40)) (v:=.int .u64 t40) (h':=h_55) (by kernel_rfl) (by kernel_rfl) (z2a (AV.int .u64) e61 (by kernel_rfl)) (k:=0) (by kernel_rfl) (fun e=>absurd e (by decide)) (by decide) (WD.a 0 (some 41) t0 h_55 ?_);obtain⟨t42,e62,hF⟩:=z3 hF;refine WD.b 0 (some 42) t42 h_55 (z24 (h:=h_55) e62) ?_;obtain⟨t43,e63,hF⟩:=z3 hF;refine WD.b 0 (some 43) t43 h_55 (z15 (P:=Try.prog) (h:=h_55) (s:=134) (f:=0) (by kernel_rfl) e63) ?_
      replace hF:=z3 hF;obtain⟨v44,e64,hF⟩:=hF
      replace hF:=z3 hF;obtain⟨t44,c65,hF⟩:=hF
      have c65:=z1d c65;subst c65;refine WD.b 1 (some 44) (zc t44) h_55 (z14 (P:=Try.prog) (h:=h_55) (t:=9) (by kernel_rfl) e64) (WD.a 0 (some 45) t0 h_55 ?_);obtain⟨t46,e66,hF⟩:=z3 hF;refine WD.b 0 (some 46) t46 h_55 (z24 (h:=h_55) e66) ?_;obtain⟨t47,e67,hF⟩:=z3 hF;refine WD.b 0 (some 47) t47 h_55 (z15 (P:=Try.prog) (h:=h_55) (s:=134) (f:=1) (by kernel_rfl) e67) ?_
      replace hF:=z3 hF;obtain⟨v48,e68,hF⟩:=hF
      replace hF:=z3 hF;obtain⟨t48,c69,hF⟩:=hF
      have c69:=z19 c69;subst c69;refine WD.b 1 (some 48) (.int .i64 t48) h_55 (z14 (P:=Try.prog) (h:=h_55) (t:=3) (by kernel_rfl) e68) (WD.a 0 (some 49) (.int .i64 t6) h_55 ?_);obtain⟨t50,e70,hF⟩:=z9 hF;refine WD.val (d:=(some 50)) (v:=.int .i64 t50) (h':=h_55) (by kernel_rfl) (by kernel_rfl) (z2a (AV.int .i64) e70 (by kernel_rfl)) (k:=0) (by kernel_rfl) (fun e=>absurd e (by decide)) (by decide) ?_;obtain⟨t51,e71,hF⟩:=z3 hF;refine WD.b 0 (some 51) (.int .u8 t51) h_55 (z178 (P:=Try.prog) (h:=h_55) (t:=9) (k:=.i64) (by kernel_rfl) e71) ?_;obtain⟨t52,e72,hF⟩:=z9 hF;refine WD.val (d:=(some 52)) (v:=.int .u64 t52) (h':=h_55) (by kernel_rfl) (by kernel_rfl) (z2a (AV.int .u64) e72 (by kernel_rfl)) (k:=0) (by kernel_rfl) (fun e=>absurd e (by decide)) (by decide) ?_;obtain⟨t53,e73,hF⟩:=z9 hF;exact WD.val (d:=(some 53)) (v:=.int .u64 t53) (h':=h_55) (by kernel_rfl) (by kernel_rfl) (z2a (AV.int .u64) e73 (by kernel_rfl)) (k:=0) (by kernel_rfl) (fun e=>absurd e (by decide)) (by decide) (WD.val (d:=(some 5)) (v:=.int .u64 t53) (h':=h_55) (by kernel_rfl) (by kernel_rfl) (by kernel_rfl) (k:=2) (by kernel_rfl) (fun _=>(by kernel_rfl)) (by decide) (WD.nil (gW [(0,t0),(1,.int .i64 t1),(5,.int .u64 t53),(6,.int .i64 t6)] (n60 (n59 (W.r (oA 37 (.int .i64 t6) (oI 38 .i64 hF fun t38 hF=>oA 6 (.int .i64 t38) (oV [(0,t0),(1,.int .i64 t1),(5,.int .u64 t53),(6,.int .i64 t38)] (n53 (gW _ (ih53 _ _ _ hF))))))))))))
     |false=>
      exact oU hF fun hF=>W.exit (by kernel_rfl) (e56 (e53 (s39 (by kernel_rfl) (gW _ (J40 _ _ hF)))))
   exact gW _ (L53 _ _ _ _ hF)
noncomputable def z79(call:z11)(_:Nat)(t0:AV)(t1:Int)(h:AHeap):R:=obind (z39 t0) fun t9=>obind (z21 1 t9) fun t10=>obind (ze h t10) fun v11=>obind (z16 .i64 v11) fun t11=>callN (call 65 [t0,.int .i64 4] h) fun r13 h_8=>obind (z16 .u64 r13) fun t13=>obind (z39 t0) fun t15=>obind (z21 2 t15) fun t16=>obind (ze h_8 t16) fun v17=>obind (z16 .i64 v17) fun t17=>lett ((t17:Int) != 0) fun (t18:Bool)=>ifB t18 (some (.ret (zc ([]:Bytes)),h_8)) (lett (decide (t1<0)) fun (t21:Bool)=>lett (fun (t27:Bool) (h_23:AHeap)=>ifB t27 (obind (z39 t0) fun t31=>obind (z21 2 t31) fun t32=>obind (z22 h_23 1 [.int .i64 3] t32) fun h_29=>obind (z39 t0) fun t33=>obind (z21 3 t33) fun t34=>obind (z22 h_29 1 [.int .i64 t11] t34) fun h_33=>some (.ret (zc ([]:Bytes)),h_33)) (obind (z39 t0) fun t38=>obind (z21 0 t38) fun t39=>obind (ze h_23 t39) fun v40=>obind (z2c v40) fun t40=>obind (z39 t0) fun t43=>obind (z21 1 t43) fun t44=>obind (ze h_23 t44) fun v45=>obind (z16 .i64 v45) fun t45=>lett (IntKind.i64.wrap ((z65 t40) - t45)) fun (t46:Int)=>lett (IntKind.u64.wrap t46) fun (t47:Int)=>lett (decide (t13>t47)) fun (t48:Bool)=>ifB t48 (obind (z39 t0) fun t52=>obind (z21 2 t52) fun t53=>obind (z22 h_23 1 [.int .i64 7] t53) fun h_51=>obind (z39 t0) fun t54=>obind (z21 3 t54) fun t55=>obind (z22 h_51 1 [.int .i64 t11] t55) fun h_55=>some (.ret (zc ([]:Bytes)),h_55)) (obind (z39 t0) fun t57=>obind (z21 1 t57) fun t58=>obind (ze h_23 t58) fun v59=>obind (z16 .i64 v59) fun t59=>obind (z39 t0) fun t62=>obind (z21 1 t62) fun t63=>obind (ze h_23 t63) fun v64=>obind (z16 .i64 v64) fun t64=>lett (IntKind.i64.wrap t13) fun (t66:Int)=>lett (IntKind.i64.wrap (t64+t66)) fun (t67:Int)=>obind (z39 t0) fun t68=>obind (z21 1 t68) fun t69=>obind (z22 h_23 1 [.int .i64 t67] t69) fun h_72=>obind (z39 t0) fun t71=>obind (z21 0 t71) fun t72=>obind (ze h_72 t72) fun v73=>obind (z2c v73) fun t73=>obind (z39 t0) fun t76=>obind (z21 1 t76) fun t77=>obind (ze h_72 t77) fun v78=>obind (z16 .i64 v78) fun t78=>obind (z6c t73 t59 t78) fun t79=>some (.ret (zc t79),h_72)))) fun j27=>ifB t21 (j27 true h_8) (lett (IntKind.u64.wrap t1) fun (t25:Int)=>lett (decide (t13>t25)) fun (t26:Bool)=>j27 t26 h_8))
set_option maxHeartbeats 4000000 in
set_option maxRecDepth 20000 in
theorem z1fd{call:z11}(hc:SaysAll Try.prog call){n:Nat}{t0:AV}{t1:Int}{h:AHeap}{rR:ARes}{hR:AHeap}(hF:z79 call n t0 t1 h=some (rR,hR)):Says Try.prog 66 [t0,.int .i64 t1] h rR hR:=by
 unfold z79 at hF;refine sO Try.func66 fun w0 m0=>wW [(0,t0),(1,.int .i64 t1)] (oG fun n1=>W.r (oA 4 (zc ([]:Bytes)) (oV [(0,t0),(1,.int .i64 t1)] (n1 (oG fun n2=>W.r (oA 8 t0 (oC0 9 hF fun t9 hF=>oF 10 134 1 hF fun t10 hF=>oLi 11 3 hF fun t11 hF=>oA 5 (.int .i64 t11) (oV [(0,t0),(1,.int .i64 t1),(5,.int .i64 t11)] (n2 (oG fun n7=>W.r (oA 12 t0 (oCi hc 13 hF fun t13 h_8 hF=>oA 6 (.int .u64 t13) (oV [(0,t0),(1,.int .i64 t1),(5,.int .i64 t11),(6,.int .u64 t13)] (n7 (oH fun n11 q11=>oG fun n12=>W.r (oA 14 t0 (oC0 15 hF fun t15 hF=>oF 16 134 2 hF fun t16 hF=>oLi 17 3 hF fun t17 hF=>oB 18 hF fun t18 hF=>oV [(0,t0),(1,.int .i64 t1),(5,.int .i64 t11),(6,.int .u64 t13),(18,.bool t18)] (n12 ?_))))))))))))))))))
 cases t18 with
 |true=>
  exact oT hF fun hF=>oG fun n18=>W.r (oA 4 (zc ([]:Bytes)) (oV [(4,zc ([]:Bytes))] (n18 (oY (q11 (lZ hF [.tmp 4] [zc ([]:Bytes)] (rT zd)))))))
 |false=>
  refine oU hF fun hF=>oZ (n11 (oH fun n19 q19=>W.blockK (by kernel_rfl) (fun K20 n20 s20 o20 q20 p20=>W.s (fun K21 n21 e21 q21 p21=>W.r (oA 20 (.int .i64 t1) (oB 21 hF fun t21 hF=>oA 22 (.bool t21) ?_))))));obtain⟨j27,e24,hF⟩:=z9 hF
  have J25:∀(t27:Bool) (h_23:AHeap),j27 t27 h_23=some (rR,hR)→WL Try.prog w0 m0 (Func.ntmps Try.f66) (Code.ops (y7 (y7 (y7 (y6 (y6 (y6 (y6 (z32 Try.f66))))))))) 8 K21 [(0,t0),(5,.int .i64 t11),(6,.int .u64 t13),(27,.bool t27)] [] h_23:=by
   intro t27 h_23 hF;rw[e24] at hF;refine oA 19 (.bool t27) (oV [(0,t0),(5,.int .i64 t11),(6,.int .u64 t13),(19,.bool t27)] (n21 ?_))
   cases t27 with
   |true=>
    exact oT hF fun hF=>oG fun n26=>W.r (oA 28 t0 (oA 29 t0 (oA 30 (.int .i64 t11) (oC0 31 hF fun t31 hF=>oF 32 134 2 hF fun t32 hF=>oW 3 (.int .i64 3) hF fun h_29 hF=>oC0 33 hF fun t33 hF=>oF 34 134 3 hF fun t34 hF=>oW 3 (.int .i64 t11) hF fun h_33 hF=>oV [] (n26 (oG fun n35=>W.r (oA 4 (zc ([]:Bytes)) (oV [(4,zc ([]:Bytes))] (n35 (oY (q20 (q19 (lZ hF [.tmp 4] [zc ([]:Bytes)] (rT zd))))))))))))))
   |false=>
    refine oU hF fun hF=>oG fun n36=>y14 (by kernel_rfl) (hc.ok w0) (plan:=[0,1,2,3,4,5,6,7,8,9,10,11,12,13]) (by kernel_rfl) (by kernel_rfl) (by kernel_rfl) (WD.a 0 (some 36) (.int .u64 t13) h_23 (WD.a 0 (some 37) t0 h_23 ?_));obtain⟨t38,e37,hF⟩:=z3 hF;refine WD.b 0 (some 38) t38 h_23 (z24 (h:=h_23) e37) ?_;obtain⟨t39,e38,hF⟩:=z3 hF;refine WD.b 0 (some 39) t39 h_23 (z15 (P:=Try.prog) (h:=h_23) (s:=134) (f:=0) (by kernel_rfl) e38) ?_
    replace hF:=z3 hF;obtain⟨v40,e39,hF⟩:=hF
    replace hF:=z3 hF;obtain⟨t40,c40,hF⟩:=hF
    have c40:=z1d c40;subst c40;refine WD.b 1 (some 40) (zc t40) h_23 (z14 (P:=Try.prog) (h:=h_23) (t:=9) (by kernel_rfl) e39) (WD.a 0 (some 41) (.int .i64 (z65 t40)) h_23 (WD.a 0 (some 42) t0 h_23 ?_));obtain⟨t43,e41,hF⟩:=z3 hF;refine WD.b 0 (some 43) t43 h_23 (z24 (h:=h_23) e41) ?_;obtain⟨t44,e42,hF⟩:=z3 hF;refine WD.b 0 (some 44) t44 h_23 (z15 (P:=Try.prog) (h:=h_23) (s:=134) (f:=1) (by kernel_rfl) e42) ?_
    replace hF:=z3 hF;obtain⟨v45,e43,hF⟩:=hF
    replace hF:=z3 hF;obtain⟨t45,c44,hF⟩:=hF
    have c44:=z19 c44;subst c44;refine WD.b 1 (some 45) (.int .i64 t45) h_23 (z14 (P:=Try.prog) (h:=h_23) (t:=3) (by kernel_rfl) e43) ?_;obtain⟨t46,e45,hF⟩:=z9 hF;refine WD.val (d:=(some 46)) (v:=.int .i64 t46) (h':=h_23) (by kernel_rfl) (by kernel_rfl) (z2a (AV.int .i64) e45 (by kernel_rfl)) (k:=0) (by kernel_rfl) (fun e=>absurd e (by decide)) (by decide) ?_;obtain⟨t47,e46,hF⟩:=z9 hF;refine WD.val (d:=(some 47)) (v:=.int .u64 t47) (h':=h_23) (by kernel_rfl) (by kernel_rfl) (z2a (AV.int .u64) e46 (by kernel_rfl)) (k:=0) (by kernel_rfl) (fun e=>absurd e (by decide)) (by decide) ?_;obtain⟨t48,e47,hF⟩:=z9 hF;refine WD.val (d:=(some 48)) (v:=.bool t48) (h':=h_23) (by kernel_rfl) (by kernel_rfl) (z2a AV.bool e47 (by kernel_rfl)) (k:=0) (by kernel_rfl) (fun e=>absurd e (by decide)) (by decide) (WD.a 0 (some 35) (.bool t48) h_23 (WD.nil (gW [(0,t0),(5,.int .i64 t11),(6,.int .u64 t13),(35,.bool t48)] (n36 ?_))))
    cases t48 with
    |true=>
     exact oT hF fun hF=>oG fun n48=>W.r (oA 49 t0 (oA 50 t0 (oA 51 (.int .i64 t11) (oC0 52 hF fun t52 hF=>oF 53 134 2 hF fun t53 hF=>oW 3 (.int .i64 7) hF fun h_51 hF=>oC0 54 hF fun t54 hF=>oF 55 134 3 hF fun t55 hF=>oW 3 (.int .i64 t11) hF fun h_55 hF=>oV [] (n48 (oG fun n57=>W.r (oA 4 (zc ([]:Bytes)) (oV [(4,zc ([]:Bytes))] (n57 (oY (q20 (q19 (lZ hF [.tmp 4] [zc ([]:Bytes)] (rT zd))))))))))))))
    |false=>
     refine oU hF fun hF=>oZ (n20 (n19 (oG fun n58=>W.r (oA 56 t0 (oC0 57 hF fun t57 hF=>oF 58 134 1 hF fun t58 hF=>oLi 59 3 hF fun t59 hF=>oA 7 (.int .i64 t59) (oV [(0,t0),(6,.int .u64 t13),(7,.int .i64 t59)] (n58 (oG fun n63=>W.r (oA 60 t0 (oA 61 t0 (oC0 62 hF fun t62 hF=>oF 63 134 1 hF fun t63 hF=>oLi 64 3 hF fun t64 hF=>oA 65 (.int .u64 t13) (oI 66 .i64 hF fun t66 hF=>oI 67 .i64 hF fun t67 hF=>oC0 68 hF fun t68 hF=>oF 69 134 1 hF fun t69 hF=>oW 3 (.int .i64 t67) hF fun h_72 hF=>oV [(0,t0),(7,.int .i64 t59)] (n63 (oG fun n74=>y14 (by kernel_rfl) (hc.ok w0) (plan:=[0,1,2,3,4,5,6,7,8,9,10]) (by kernel_rfl) (by kernel_rfl) (by kernel_rfl) (WD.a 0 (some 70) t0 h_72 ?_)))))))))))))));obtain⟨t71,e75,hF⟩:=z3 hF;refine WD.b 0 (some 71) t71 h_72 (z24 (h:=h_72) e75) ?_;obtain⟨t72,e76,hF⟩:=z3 hF;refine WD.b 0 (some 72) t72 h_72 (z15 (P:=Try.prog) (h:=h_72) (s:=134) (f:=0) (by kernel_rfl) e76) ?_
     replace hF:=z3 hF;obtain⟨v73,e77,hF⟩:=hF
     replace hF:=z3 hF;obtain⟨t73,c78,hF⟩:=hF
     have c78:=z1d c78;subst c78;refine WD.b 1 (some 73) (zc t73) h_72 (z14 (P:=Try.prog) (h:=h_72) (t:=9) (by kernel_rfl) e77) (WD.a 0 (some 74) (.int .i64 t59) h_72 (WD.a 0 (some 75) t0 h_72 ?_));obtain⟨t76,e79,hF⟩:=z3 hF;refine WD.b 0 (some 76) t76 h_72 (z24 (h:=h_72) e79) ?_;obtain⟨t77,e80,hF⟩:=z3 hF;refine WD.b 0 (some 77) t77 h_72 (z15 (P:=Try.prog) (h:=h_72) (s:=134) (f:=1) (by kernel_rfl) e80) ?_
     replace hF:=z3 hF;obtain⟨v78,e81,hF⟩:=hF
     replace hF:=z3 hF;obtain⟨t78,c82,hF⟩:=hF
     have c82:=z19 c82;subst c82;refine WD.b 1 (some 78) (.int .i64 t78) h_72 (z14 (P:=Try.prog) (h:=h_72) (t:=3) (by kernel_rfl) e81) ?_;obtain⟨t79,e83,hF⟩:=z3 hF;exact WD.b 0 (some 79) (zc t79) h_72 (z6b (P:=Try.prog) (h:=h_72) (t:=9) (A:=(some (.int .i64 t59))) (B:=(some (.int .i64 t78))) (by kernel_rfl) (.inl ⟨_,rfl⟩) (.inl ⟨_,rfl⟩) e83) (WD.a 0 (some 4) (zc t79) h_72 (WD.nil (gW [(4,zc t79)] (n74 (oY (lZ hF [.tmp 4] [zc t79] (rT zd)))))))
  cases t21 with
  |true=>
   replace hF:=z55 hF
   exact WL.o (some 23) (WL.o (some 24) (WL.o (some 25) (WL.o (some 26) (oA 27 (.bool true) (lW _ (J25 _ _ hF))))))
  |false=>
   replace hF:=z56 hF
   exact oA 23 (.int .u64 t13) (oA 24 (.int .i64 t1) (oI 25 .u64 hF fun t25 hF=>oB 26 hF fun t26 hF=>oA 27 (.bool t26) (lW _ (J25 _ _ hF))))
noncomputable def z8e(_:z11)(_:Nat)(t0:AV)(h:AHeap):R:=lett (fun (t20:Bool) (h_5:AHeap)=>ifB t20 (obind (z39 t0) fun t22=>obind (z21 1 t22) fun t23=>obind (ze h_5 t23) fun v24=>obind (z16 .i64 v24) fun t24=>some (.ret (.tup [.int .i64 7,.int .i64 t24]),h_5)) (obind (z39 t0) fun t26=>obind (z21 2 t26) fun t27=>obind (ze h_5 t27) fun v28=>obind (z16 .i64 v28) fun t28=>obind (z39 t0) fun t30=>obind (z21 3 t30) fun t31=>obind (ze h_5 t31) fun v32=>obind (z16 .i64 v32) fun t32=>some (.ret (.tup [.int .i64 t28,.int .i64 t32]),h_5))) fun k4=>obind (z39 t0) fun t5=>obind (z21 2 t5) fun t6=>obind (ze h t6) fun v7=>obind (z16 .i64 v7) fun t7=>lett ((t7:Int) == 0) fun (t8:Bool)=>ifB t8 (obind (z39 t0) fun t11=>obind (z21 1 t11) fun t12=>obind (ze h t12) fun v13=>obind (z16 .i64 v13) fun t13=>obind (z39 t0) fun t15=>obind (z21 0 t15) fun t16=>obind (ze h t16) fun v17=>obind (z2c v17) fun t17=>lett (decide (t13<(z65 t17))) fun (t19:Bool)=>k4 t19 h) (k4 false h)
set_option maxHeartbeats 4000000 in
set_option maxRecDepth 20000 in
theorem z219{call:z11}(hc:SaysAll Try.prog call){n:Nat}{t0:AV}{h:AHeap}{rR:ARes}{hR:AHeap}(hF:z8e call n t0 h=some (rR,hR)):Says Try.prog 67 [t0] h rR hR:=by
 unfold z8e at hF;refine sO Try.func67 fun w0 m0=>wW [(0,t0)] (oG fun n1=>W.r (oA 2 (.int .i64 0) (oA 3 (.int .i64 0) (oV [(0,t0)] (n1 (oH fun n2 q2=>W.s (fun K3 n3 e3 q3 p3=>?_)))))));obtain⟨k4,e4,hF⟩:=z9 hF
 have J4:∀(t20:Bool) (h_5:AHeap),k4 t20 h_5=some (rR,hR)→Go w0 m0 (Func.ntmps Try.f67) (K3 .normal) [(0,t0),(20,.bool t20)] [] h_5:=by
  intro t20 h_5 hF;rw[e4] at hF;refine n3 ?_
  cases t20 with
  |true=>
   refine oT hF fun hF=>oG fun n6=>y14 (by kernel_rfl) (hc.ok w0) (plan:=[0,1,2,3,4,5]) (by kernel_rfl) (by kernel_rfl) (by kernel_rfl) (WD.a 0 (some 21) t0 h_5 ?_);obtain⟨t22,e7,hF⟩:=z3 hF;refine WD.b 0 (some 22) t22 h_5 (z24 (h:=h_5) e7) ?_;obtain⟨t23,e8,hF⟩:=z3 hF;refine WD.b 0 (some 23) t23 h_5 (z15 (P:=Try.prog) (h:=h_5) (s:=134) (f:=1) (by kernel_rfl) e8) ?_
   replace hF:=z3 hF;obtain⟨v24,e9,hF⟩:=hF
   replace hF:=z3 hF;obtain⟨t24,c10,hF⟩:=hF
   have c10:=z19 c10;subst c10;exact WD.b 1 (some 24) (.int .i64 t24) h_5 (z14 (P:=Try.prog) (h:=h_5) (t:=3) (by kernel_rfl) e9) (WD.a 0 (some 2) (.int .i64 7) h_5 (WD.a 0 (some 3) (.int .i64 t24) h_5 (WD.nil (gW [(2,.int .i64 7),(3,.int .i64 t24)] (n6 (oY (q2 (lZ hF [.tmp 2,.tmp 3] [.int .i64 7,.int .i64 t24] (rT (rT zd))))))))))
  |false=>
   refine oU hF fun hF=>oZ (n2 (oG fun n11=>y14 (by kernel_rfl) (hc.ok w0) (plan:=[0,1,2,3,4,5,6,7,8,9]) (by kernel_rfl) (by kernel_rfl) (by kernel_rfl) (WD.a 0 (some 25) t0 h_5 ?_)));obtain⟨t26,e12,hF⟩:=z3 hF;refine WD.b 0 (some 26) t26 h_5 (z24 (h:=h_5) e12) ?_;obtain⟨t27,e13,hF⟩:=z3 hF;refine WD.b 0 (some 27) t27 h_5 (z15 (P:=Try.prog) (h:=h_5) (s:=134) (f:=2) (by kernel_rfl) e13) ?_
   replace hF:=z3 hF;obtain⟨v28,e14,hF⟩:=hF
   replace hF:=z3 hF;obtain⟨t28,c15,hF⟩:=hF
   have c15:=z19 c15;subst c15;refine WD.b 1 (some 28) (.int .i64 t28) h_5 (z14 (P:=Try.prog) (h:=h_5) (t:=3) (by kernel_rfl) e14) (WD.a 0 (some 29) t0 h_5 ?_);obtain⟨t30,e16,hF⟩:=z3 hF;refine WD.b 0 (some 30) t30 h_5 (z24 (h:=h_5) e16) ?_;obtain⟨t31,e17,hF⟩:=z3 hF;refine WD.b 0 (some 31) t31 h_5 (z15 (P:=Try.prog) (h:=h_5) (s:=134) (f:=3) (by kernel_rfl) e17) ?_
   replace hF:=z3 hF;obtain⟨v32,e18,hF⟩:=hF
   replace hF:=z3 hF;obtain⟨t32,c19,hF⟩:=hF
   have c19:=z19 c19;subst c19;exact WD.b 1 (some 32) (.int .i64 t32) h_5 (z14 (P:=Try.prog) (h:=h_5) (t:=3) (by kernel_rfl) e18) (WD.a 0 (some 2) (.int .i64 t28) h_5 (WD.a 0 (some 3) (.int .i64 t32) h_5 (WD.nil (gW [(2,.int .i64 t28),(3,.int .i64 t32)] (n11 (oY (lZ hF [.tmp 2,.tmp 3] [.int .i64 t28,.int .i64 t32] (rT (rT zd)))))))))
 refine y14 (by kernel_rfl) (hc.ok w0) (plan:=[0,1,2,3,4,5,6,7,8,9,10,11,12,13,14,15,16]) (by kernel_rfl) (by kernel_rfl) (by kernel_rfl) (WD.a 0 (some 4) t0 h ?_);obtain⟨t5,e20,hF⟩:=z3 hF;refine WD.b 0 (some 5) t5 h (z24 (h:=h) e20) ?_;obtain⟨t6,e21,hF⟩:=z3 hF;refine WD.b 0 (some 6) t6 h (z15 (P:=Try.prog) (h:=h) (s:=134) (f:=2) (by kernel_rfl) e21) ?_
 replace hF:=z3 hF;obtain⟨v7,e22,hF⟩:=hF
 replace hF:=z3 hF;obtain⟨t7,c23,hF⟩:=hF
 have c23:=z19 c23;subst c23;refine WD.b 1 (some 7) (.int .i64 t7) h (z14 (P:=Try.prog) (h:=h) (t:=3) (by kernel_rfl) e22) ?_;obtain⟨t8,e24,hF⟩:=z9 hF;refine WD.val (d:=(some 8)) (v:=.bool t8) (h':=h) (by kernel_rfl) (by kernel_rfl) (z2a AV.bool e24 (by kernel_rfl)) (k:=0) (by kernel_rfl) (fun e=>absurd e (by decide)) (by decide) (WD.a 0 (some 9) (.bool t8) h ?_)
 cases t8 with
 |true=>
  replace hF:=z55 hF
  refine WD.a 0 (some 10) t0 h ?_;obtain⟨t11,e25,hF⟩:=z3 hF;refine WD.b 0 (some 11) t11 h (z24 (h:=h) e25) ?_;obtain⟨t12,e26,hF⟩:=z3 hF;refine WD.b 0 (some 12) t12 h (z15 (P:=Try.prog) (h:=h) (s:=134) (f:=1) (by kernel_rfl) e26) ?_
  replace hF:=z3 hF;obtain⟨v13,e27,hF⟩:=hF
  replace hF:=z3 hF;obtain⟨t13,c28,hF⟩:=hF
  have c28:=z19 c28;subst c28;refine WD.b 1 (some 13) (.int .i64 t13) h (z14 (P:=Try.prog) (h:=h) (t:=3) (by kernel_rfl) e27) (WD.a 0 (some 14) t0 h ?_);obtain⟨t15,e29,hF⟩:=z3 hF;refine WD.b 0 (some 15) t15 h (z24 (h:=h) e29) ?_;obtain⟨t16,e30,hF⟩:=z3 hF;refine WD.b 0 (some 16) t16 h (z15 (P:=Try.prog) (h:=h) (s:=134) (f:=0) (by kernel_rfl) e30) ?_
  replace hF:=z3 hF;obtain⟨v17,e31,hF⟩:=hF
  replace hF:=z3 hF;obtain⟨t17,c32,hF⟩:=hF
  have c32:=z1d c32;subst c32;refine WD.b 1 (some 17) (zc t17) h (z14 (P:=Try.prog) (h:=h) (t:=9) (by kernel_rfl) e31) (WD.a 0 (some 18) (.int .i64 (z65 t17)) h ?_);obtain⟨t19,e33,hF⟩:=z9 hF;exact WD.val (d:=(some 19)) (v:=.bool t19) (h':=h) (by kernel_rfl) (by kernel_rfl) (z2a AV.bool e33 (by kernel_rfl)) (k:=0) (by kernel_rfl) (fun e=>absurd e (by decide)) (by decide) (WD.a 0 (some 20) (.bool t19) h (WD.nil (gW _ (J4 _ _ hF))))
 |false=>
  replace hF:=z56 hF
  exact oD 0 (some 10) (oD 0 (some 11) (oD 0 (some 12) (oD 1 (some 13) (oD 0 (some 14) (oD 0 (some 15) (oD 0 (some 16) (oD 1 (some 17) (oD 0 (some 18) (oD 0 (some 19) (WD.a 0 (some 20) (.bool false) h (WD.nil (gW _ (J4 _ _ hF)))))))))))))
noncomputable def z1e6(call:z11)(_:Nat)(t0:Bytes)(h:AHeap):R:=callN (call 93 [.int .u32 0,zc t0] h) fun r4 h_3=>obind (z16 .u32 r4) fun t4=>some (.ret (.int .u32 t4),h_3)
set_option maxHeartbeats 4000000 in
set_option maxRecDepth 20000 in
theorem z413{call:z11}(hc:SaysAll Try.prog call){n:Nat}{t0:Bytes}{h:AHeap}{rR:ARes}{hR:AHeap}(hF:z1e6 call n t0 h=some (rR,hR)):Says Try.prog 84 [zc t0] h rR hR:=by
 unfold z1e6 at hF;exact sO Try.func84 fun w0 m0=>wW [(0,zc t0)] (oG fun n1=>W.r (oA 2 (.int .u32 0) (oV [(0,zc t0)] (n1 (oG fun n2=>W.r (oA 3 (zc t0) (oCi hc 4 hF fun t4 h_3 hF=>oA 2 (.int .u32 t4) (oV [(2,.int .u32 t4)] (n2 (oY (lZ hF [.tmp 2] [.int .u32 t4] (rT zd))))))))))))
noncomputable def zee(call:z11)(k24:Int→AHeap→R)(self:Int→Int→Int→AHeap→R)(t5_29:Int)(t7:Int)(t8:Int)(h_30:AHeap):R:=lett (decide (t8<8)) fun (t22:Bool)=>ifB t22 (obind (remI .u32 t7 2) fun t27=>callN (call 95 [.int .u32 t5_29,.int .u32 t27] h_30) fun r28 h_38=>obind (z16 .u32 r28) fun t28=>obind (quoI .u32 t7 2) fun t30=>lett (IntKind.i64.wrap (t8+1)) fun (t24:Int)=>self t28 t30 t24 h_38) (k24 t5_29 h_30)
noncomputable def z119(call:z11)(k24:Int→AHeap→R):Nat→Int→Int→Int→AHeap→R:=z143 (fun _ _ _ _=>none) (zee call k24)
theorem z16c(call:z11)(k24:Int→AHeap→R)(m:Nat):z119 call k24 (m+1)=zee call k24 (z119 call k24 m):=rfl
noncomputable def zef(call:z11)(n:Nat)(t1:Bytes)(k7:Int→AHeap→R)(self:Int→Int→AHeap→R)(t5_12:Int)(t6:Int)(h_13:AHeap):R:=lett (decide (t6<(z65 t1))) fun (t14:Bool)=>ifB t14 (obind (z398 t1 t6) fun t19=>lett (IntKind.u32.wrap t19) fun (t20:Int)=>lett (fun (t5_25:Int) (h_26:AHeap)=>lett (IntKind.i64.wrap (t6+1)) fun (t16:Int)=>self t5_25 t16 h_26) fun k24=>z119 call k24 n t5_12 t20 0 h_13) (k7 t5_12 h_13)
noncomputable def z11a(call:z11)(n:Nat)(t1:Bytes)(k7:Int→AHeap→R):Nat→Int→Int→AHeap→R:=z143 (fun _ _ _=>none) (zef call n t1 k7)
theorem z16d(call:z11)(n:Nat)(t1:Bytes)(k7:Int→AHeap→R)(m:Nat):z11a call n t1 k7 (m+1)=zef call n t1 k7 (z11a call n t1 k7 m):=rfl
noncomputable def z15b(call:z11)(n:Nat)(t0:Int)(t1:Bytes)(h:AHeap):R:=lett (comI .u32 t0) fun (t10:Int)=>lett (fun (t5:Int) (h_8:AHeap)=>lett (comI .u32 t5) fun (t32:Int)=>some (.ret (.int .u32 t32),h_8)) fun k7=>z11a call n t1 k7 n t10 0 h
set_option maxHeartbeats 4000000 in
set_option maxRecDepth 20000 in
theorem z369{call:z11}(hc:SaysAll Try.prog call){n:Nat}{t0:Int}{t1:Bytes}{h:AHeap}{rR:ARes}{hR:AHeap}(hF:z15b call n t0 t1 h=some (rR,hR)):Says Try.prog 93 [.int .u32 t0,zc t1] h rR hR:=by
 unfold z15b at hF;refine sO Try.func93 fun w0 m0=>wW [(0,.int .u32 t0),(1,zc t1)] (oG fun n1=>W.r (oA 4 (.int .u32 0) (oV [(0,.int .u32 t0),(1,zc t1)] (n1 (oG fun n2=>W.r (oA 9 (.int .u32 t0) (oI 10 .u32 hF fun t10 hF=>oA 5 (.int .u32 t10) (oV [(1,zc t1),(5,.int .u32 t10)] (n2 (W.s (fun K4 n4 e4 q4 p4=>oG fun n5=>W.r (oA 6 (.int .i64 0) (oV [(1,zc t1),(5,.int .u32 t10),(6,.int .i64 0)] (n5 ?_))))))))))))));obtain⟨k7,e7,hF⟩:=z9 hF
 have J7:∀(t5:Int) (h_8:AHeap),k7 t5 h_8=some (rR,hR)→Go w0 m0 (Func.ntmps Try.f93) (K4 .normal) [(5,.int .u32 t5)] [] h_8:=by
  intro t5 h_8 hF;rw[e7] at hF;exact n4 (oG fun n9=>W.r (oA 31 (.int .u32 t5) (oI 32 .u32 hF fun t32 hF=>oA 4 (.int .u32 t32) (oV [(4,.int .u32 t32)] (n9 (oY (lZ hF [.tmp 4] [.int .u32 t32] (rT zd))))))))
 refine W.blockK (by kernel_rfl) (fun K6 n6 s6 o6 q6 p6=>W.loopK (by kernel_rfl) (fun I11 K11 b11 n11 e11 q11 p11=>?_))
 have L11:∀(m:Nat) (t5_12:Int) (t6:Int) (h_13:AHeap),z11a call n t1 k7 m t5_12 t6 h_13=some (rR,hR)→Go w0 m0 (Func.ntmps Try.f93) I11 [(1,zc t1),(5,.int .u32 t5_12),(6,.int .i64 t6)] [] h_13:=by
  intro m
  induction m with
  |zero=>intro t5_12 t6 h_13 hF;cases hF
  |succ m ih11=>
   intro t5_12 t6 h_13 hF;rw[z16d] at hF;unfold zef at hF;refine b11 (W.s (fun K14 n14 e14 q14 p14=>oG fun n15=>W.r (oA 11 (.int .i64 t6) (oA 12 (zc t1) (oA 13 (.int .i64 (z65 t1)) (oB 14 hF fun t14 hF=>oV [(1,zc t1),(5,.int .u32 t5_12),(6,.int .i64 t6),(14,.bool t14)] (n15 ?_)))))))
   cases t14 with
   |true=>
    refine oT hF fun hF=>oZ (n14 (oG fun n17=>W.blockK (by kernel_rfl) (fun K18 n18 s18 o18 q18 p18=>oG fun n19=>W.r (oA 17 (zc t1) (oA 18 (.int .i64 t6) (oX 19 9 .i64 hF fun t19 hF=>oI 20 .u32 hF fun t20 hF=>oA 7 (.int .u32 t20) (oV [(1,zc t1),(5,.int .u32 t5_12),(6,.int .i64 t6),(7,.int .u32 t20)] (n19 (oG fun n22=>W.r (oA 8 (.int .i64 0) (oV [(1,zc t1),(5,.int .u32 t5_12),(6,.int .i64 t6),(7,.int .u32 t20),(8,.int .i64 0)] (n22 ?_))))))))))));obtain⟨k24,e24,hF⟩:=z9 hF
    have J24:∀(t5_25:Int) (h_26:AHeap),k24 t5_25 h_26=some (rR,hR)→Go w0 m0 (Func.ntmps Try.f93) (K18 .normal) [(1,zc t1),(5,.int .u32 t5_25),(6,.int .i64 t6)] [] h_26:=by
     intro t5_25 h_26 hF;rw[e24] at hF;exact n18 (n17 (W.r (oA 15 (.int .i64 t6) (oI 16 .i64 hF fun t16 hF=>oA 6 (.int .i64 t16) (oV [(1,zc t1),(5,.int .u32 t5_25),(6,.int .i64 t16)] (n11 (gW _ (ih11 _ _ _ hF))))))))
    refine W.blockK (by kernel_rfl) (fun K23 n23 s23 o23 q23 p23=>W.loopK (by kernel_rfl) (fun I28 K28 b28 n28 e28 q28 p28=>?_))
    have L28:∀(m:Nat) (t5_29:Int) (t7:Int) (t8:Int) (h_30:AHeap),z119 call k24 m t5_29 t7 t8 h_30=some (rR,hR)→Go w0 m0 (Func.ntmps Try.f93) I28 [(1,zc t1),(5,.int .u32 t5_29),(6,.int .i64 t6),(7,.int .u32 t7),(8,.int .i64 t8)] [] h_30:=by
     intro m
     induction m with
     |zero=>intro t5_29 t7 t8 h_30 hF;cases hF
     |succ m ih28=>
      intro t5_29 t7 t8 h_30 hF;rw[z16c] at hF;unfold zee at hF;refine b28 (W.s (fun K31 n31 e31 q31 p31=>oG fun n32=>W.r (oA 21 (.int .i64 t8) (oB 22 hF fun t22 hF=>oV [(1,zc t1),(5,.int .u32 t5_29),(6,.int .i64 t6),(7,.int .u32 t7),(8,.int .i64 t8),(22,.bool t22)] (n32 ?_)))))
      cases t22 with
      |true=>
       refine oT hF fun hF=>oZ (n31 (oG fun n34=>W.blockK (by kernel_rfl) (fun K35 n35 s35 o35 q35 p35=>oG fun n36=>W.r (oA 25 (.int .u32 t5_29) (oA 26 (.int .u32 t7) ?_)))));obtain⟨t27,e37,hF⟩:=z3 hF;refine WL.b (some 27) (.int .u32 t27) h_30 (z2d3 (P:=Try.prog) (h:=h_30) (t:=154) (lit:=true) e37) (oCi hc 28 hF fun t28 h_38 hF=>oA 5 (.int .u32 t28) (oV [(1,zc t1),(5,.int .u32 t28),(6,.int .i64 t6),(7,.int .u32 t7),(8,.int .i64 t8)] (n36 (W.r (oA 29 (.int .u32 t7) ?_)))));obtain⟨t30,e41,hF⟩:=z3 hF;exact WL.b (some 30) (.int .u32 t30) h_38 (z418 (P:=Try.prog) (h:=h_38) (t:=154) (lit:=true) e41) (oA 7 (.int .u32 t30) (oV [(1,zc t1),(5,.int .u32 t28),(6,.int .i64 t6),(7,.int .u32 t30),(8,.int .i64 t8)] (n35 (n34 (W.r (oA 23 (.int .i64 t8) (oI 24 .i64 hF fun t24 hF=>oA 8 (.int .i64 t24) (oV [(1,zc t1),(5,.int .u32 t28),(6,.int .i64 t6),(7,.int .u32 t30),(8,.int .i64 t24)] (n28 (gW _ (ih28 _ _ _ _ hF)))))))))))
      |false=>
       exact oU hF fun hF=>W.exit (by kernel_rfl) (e31 (e28 (s23 (by kernel_rfl) (gW _ (J24 _ _ hF)))))
    exact gW _ (L28 _ _ _ _ _ hF)
   |false=>
    exact oU hF fun hF=>W.exit (by kernel_rfl) (e14 (e11 (s6 (by kernel_rfl) (gW _ (J7 _ _ hF)))))
 exact gW _ (L11 _ _ _ _ hF)
noncomputable def z15a(_:z11)(_:Nat)(t0:Int)(t1:Int)(h:AHeap):R:=lett (IntKind.u32.wrap (t0+t1)) fun (t8:Int)=>obind (remI .u32 t8 2) fun t9=>obind (quoI .u32 t0 2) fun t11=>lett ((t9:Int) == 1) fun (t13:Bool)=>lett (fun (t0_11:Int) (h_12:AHeap)=>some (.ret (.int .u32 t0_11),h_12)) fun k10=>ifB t13 (lett (xorI .u32 t11 2197175160) fun (t15:Int)=>k10 t15 h) (k10 t11 h)
set_option maxHeartbeats 4000000 in
set_option maxRecDepth 20000 in
theorem z368{call:z11}(_:SaysAll Try.prog call){n:Nat}{t0:Int}{t1:Int}{h:AHeap}{rR:ARes}{hR:AHeap}(hF:z15a call n t0 t1 h=some (rR,hR)):Says Try.prog 95 [.int .u32 t0,.int .u32 t1] h rR hR:=by
 unfold z15a at hF;refine sO Try.func95 fun w0 m0=>wW [(0,.int .u32 t0),(1,.int .u32 t1)] (oG fun n1=>W.r (oA 4 (.int .u32 0) (oV [(0,.int .u32 t0),(1,.int .u32 t1)] (n1 (oG fun n2=>W.r (oA 6 (.int .u32 t0) (oA 7 (.int .u32 t1) (oI 8 .u32 hF fun t8 hF=>?_))))))));obtain⟨t9,e4,hF⟩:=z3 hF;refine WL.b (some 9) (.int .u32 t9) h (z2d3 (P:=Try.prog) (h:=h) (t:=154) (lit:=true) e4) (oA 5 (.int .u32 t9) (oV [(0,.int .u32 t0),(5,.int .u32 t9)] (n2 (oG fun n5=>W.r (oA 10 (.int .u32 t0) ?_)))));obtain⟨t11,e6,hF⟩:=z3 hF;refine WL.b (some 11) (.int .u32 t11) h (z418 (P:=Try.prog) (h:=h) (t:=154) (lit:=true) e6) (oA 0 (.int .u32 t11) (oV [(0,.int .u32 t11),(5,.int .u32 t9)] (n5 (W.s (fun K7 n7 e7 q7 p7=>oG fun n8=>W.r (oA 12 (.int .u32 t9) (oB 13 hF fun t13 hF=>oV [(0,.int .u32 t11),(13,.bool t13)] (n8 ?_))))))));obtain⟨k10,e10,hF⟩:=z9 hF
 have J10:∀(t0_11:Int) (h_12:AHeap),k10 t0_11 h_12=some (rR,hR)→Go w0 m0 (Func.ntmps Try.f95) (K7 .normal) [(0,.int .u32 t0_11)] [] h_12:=by
  intro t0_11 h_12 hF;rw[e10] at hF;exact n7 (oG fun n13=>W.r (oA 16 (.int .u32 t0_11) (oA 4 (.int .u32 t0_11) (oV [(4,.int .u32 t0_11)] (n13 (oY (lZ hF [.tmp 4] [.int .u32 t0_11] (rT zd))))))))
 cases t13 with
 |true=>
  exact oT hF fun hF=>W.r (oA 14 (.int .u32 t11) (oI 15 .u32 hF fun t15 hF=>oA 0 (.int .u32 t15) (oV [(0,.int .u32 t15)] (gW _ (J10 _ _ hF)))))
 |false=>
  exact oU hF fun hF=>oZ (gW _ (J10 _ _ hF))
noncomputable def z12c(_:z11)(_:Nat)(t0:List AV)(h:AHeap):R:=outK (za8 h 35 (some (.agg t0))) fun v1 h_2=>obind (z21 0 v1) fun t3=>obind (ze h_2 t3) fun v4=>obind (z16 .i64 v4) fun t4=>lett (decide (t4<1)) fun (t5:Bool)=>lett (fun (t10:Bool) (h_10:AHeap)=>lett (fun (t16:Bool) (h_13:AHeap)=>lett (fun (t22:Bool) (h_16:AHeap)=>lett (fun (t28:Bool) (h_19:AHeap)=>lett (fun (t34:Bool) (h_22:AHeap)=>lett (fun (t39:Bool) (h_25:AHeap)=>lett (fun (t44:Bool) (h_28:AHeap)=>ifB t44 (some (.ret (.int .i64 2),h_28)) (obind (z21 4 v1) fun t45=>obind (ze h_28 t45) fun v46=>obind (z2c v46) fun t46=>lett (decide ((z65 t46)>64)) fun (t48:Bool)=>ifB t48 (some (.ret (.int .i64 3),h_28)) (some (.ret (.int .i64 0),h_28)))) fun j44=>ifB t39 (j44 true h_25) (obind (z21 3 v1) fun t41=>obind (ze h_25 t41) fun v42=>obind (z16 .i64 v42) fun t42=>lett (decide (t42>1048576)) fun (t43:Bool)=>j44 t43 h_25)) fun j39=>ifB t34 (j39 true h_22) (obind (z21 3 v1) fun t36=>obind (ze h_22 t36) fun v37=>obind (z16 .i64 v37) fun t37=>lett (decide (t37<1)) fun (t38:Bool)=>j39 t38 h_22)) fun j34=>ifB t28 (j34 true h_19) (obind (z21 1 v1) fun t30=>obind (z21 1 t30) fun t31=>obind (ze h_19 t31) fun v32=>obind (z16 .i64 v32) fun t32=>lett (decide (t32>1048576)) fun (t33:Bool)=>j34 t33 h_19)) fun j28=>ifB t22 (j28 true h_16) (obind (z21 1 v1) fun t24=>obind (z21 1 t24) fun t25=>obind (ze h_16 t25) fun v26=>obind (z16 .i64 v26) fun t26=>lett (decide (t26<1)) fun (t27:Bool)=>j28 t27 h_16)) fun j22=>ifB t16 (j22 true h_13) (obind (z21 1 v1) fun t18=>obind (z21 0 t18) fun t19=>obind (ze h_13 t19) fun v20=>obind (z16 .i64 v20) fun t20=>lett (decide (t20>1099511627776)) fun (t21:Bool)=>j22 t21 h_13)) fun j16=>ifB t10 (j16 true h_10) (obind (z21 1 v1) fun t12=>obind (z21 0 t12) fun t13=>obind (ze h_10 t13) fun v14=>obind (z16 .i64 v14) fun t14=>lett (decide (t14<1)) fun (t15:Bool)=>j16 t15 h_10)) fun j10=>ifB t5 (j10 true h_2) (obind (z21 0 v1) fun t7=>obind (ze h_2 t7) fun v8=>obind (z16 .i64 v8) fun t8=>lett (decide (t8>1048576)) fun (t9:Bool)=>j10 t9 h_2)
set_option maxHeartbeats 4000000 in
set_option maxRecDepth 20000 in
theorem z316{call:z11}(_:SaysAll Try.prog call){n:Nat}{t0:List AV}{h:AHeap}{rR:ARes}{hR:AHeap}(hF:z12c call n t0 h=some (rR,hR)):Says Try.prog 17 [.agg t0] h rR hR:=by
 unfold z12c at hF;refine sO Try.func17 fun w0 m0=>wW [(0,.agg t0)] (oG fun n1=>W.r (oK 1 hF fun v1 h_2 hF=>oA 2 (.int .i64 0) (oV [(1,v1)] (n1 (oH fun n4 q4=>W.s (fun K5 n5 e5 q5 p5=>W.r (oF 3 35 0 hF fun t3 hF=>oLi 4 3 hF fun t4 hF=>oB 5 hF fun t5 hF=>oA 6 (.bool t5) ?_)))))));obtain⟨j10,e11,hF⟩:=z9 hF
 have J12:∀(t10:Bool) (h_10:AHeap),j10 t10 h_10=some (rR,hR)→WL Try.prog w0 m0 (Func.ntmps Try.f17) (Code.ops (y7 (y7 (y6 (z32 Try.f17))))) 8 K5 [(1,v1),(10,.bool t10)] [] h_10:=by
  intro t10 h_10 hF;rw[e11] at hF;refine oA 11 (.bool t10) ?_;obtain⟨j16,e14,hF⟩:=z9 hF
  have J15:∀(t16:Bool) (h_13:AHeap),j16 t16 h_13=some (rR,hR)→WL Try.prog w0 m0 (Func.ntmps Try.f17) (Code.ops (y7 (y7 (y6 (z32 Try.f17))))) 14 K5 [(1,v1),(16,.bool t16)] [] h_13:=by
   intro t16 h_13 hF;rw[e14] at hF;refine oA 17 (.bool t16) ?_;obtain⟨j22,e17,hF⟩:=z9 hF
   have J18:∀(t22:Bool) (h_16:AHeap),j22 t22 h_16=some (rR,hR)→WL Try.prog w0 m0 (Func.ntmps Try.f17) (Code.ops (y7 (y7 (y6 (z32 Try.f17))))) 20 K5 [(1,v1),(22,.bool t22)] [] h_16:=by
    intro t22 h_16 hF;rw[e17] at hF;refine oA 23 (.bool t22) ?_;obtain⟨j28,e20,hF⟩:=z9 hF
    have J21:∀(t28:Bool) (h_19:AHeap),j28 t28 h_19=some (rR,hR)→WL Try.prog w0 m0 (Func.ntmps Try.f17) (Code.ops (y7 (y7 (y6 (z32 Try.f17))))) 26 K5 [(1,v1),(28,.bool t28)] [] h_19:=by
     intro t28 h_19 hF;rw[e20] at hF;refine oA 29 (.bool t28) ?_;obtain⟨j34,e23,hF⟩:=z9 hF
     have J24:∀(t34:Bool) (h_22:AHeap),j34 t34 h_22=some (rR,hR)→WL Try.prog w0 m0 (Func.ntmps Try.f17) (Code.ops (y7 (y7 (y6 (z32 Try.f17))))) 32 K5 [(1,v1),(34,.bool t34)] [] h_22:=by
      intro t34 h_22 hF;rw[e23] at hF;refine oA 35 (.bool t34) ?_;obtain⟨j39,e26,hF⟩:=z9 hF
      have J27:∀(t39:Bool) (h_25:AHeap),j39 t39 h_25=some (rR,hR)→WL Try.prog w0 m0 (Func.ntmps Try.f17) (Code.ops (y7 (y7 (y6 (z32 Try.f17))))) 37 K5 [(1,v1),(39,.bool t39)] [] h_25:=by
       intro t39 h_25 hF;rw[e26] at hF;refine oA 40 (.bool t39) ?_;obtain⟨j44,e29,hF⟩:=z9 hF
       have J30:∀(t44:Bool) (h_28:AHeap),j44 t44 h_28=some (rR,hR)→WL Try.prog w0 m0 (Func.ntmps Try.f17) (Code.ops (y7 (y7 (y6 (z32 Try.f17))))) 42 K5 [(1,v1),(44,.bool t44)] [] h_28:=by
        intro t44 h_28 hF;rw[e29] at hF;refine oV [(1,v1),(44,.bool t44)] (n5 ?_)
        cases t44 with
        |true=>
         exact oT hF fun hF=>oG fun n31=>W.r (oA 2 (.int .i64 2) (oV [(2,.int .i64 2)] (n31 (oY (q4 (lZ hF [.tmp 2] [.int .i64 2] (rT zd)))))))
        |false=>
         refine oU hF fun hF=>oZ (n4 (oH fun n32 q32=>oG fun n33=>W.r (oF 45 35 3 hF fun t45 hF=>oLs 46 9 hF fun t46 hF=>oA 47 (.int .i64 (z65 t46)) (oB 48 hF fun t48 hF=>oV [(48,.bool t48)] (n33 ?_)))))
         cases t48 with
         |true=>
          exact oT hF fun hF=>oG fun n38=>W.r (oA 2 (.int .i64 3) (oV [(2,.int .i64 3)] (n38 (oY (q32 (lZ hF [.tmp 2] [.int .i64 3] (rT zd)))))))
         |false=>
          exact oU hF fun hF=>oZ (n32 (oG fun n39=>W.r (oA 2 (.int .i64 0) (oV [(2,.int .i64 0)] (n39 (oY (lZ hF [.tmp 2] [.int .i64 0] (rT zd))))))))
       cases t39 with
       |true=>
        replace hF:=z55 hF
        exact WL.o (some 41) (WL.o (some 42) (WL.o (some 43) (oA 44 (.bool true) (lW _ (J30 _ _ hF)))))
       |false=>
        replace hF:=z56 hF
        exact oF 41 35 2 hF fun t41 hF=>oLi 42 3 hF fun t42 hF=>oB 43 hF fun t43 hF=>oA 44 (.bool t43) (lW _ (J30 _ _ hF))
      cases t34 with
      |true=>
       replace hF:=z55 hF
       exact WL.o (some 36) (WL.o (some 37) (WL.o (some 38) (oA 39 (.bool true) (lW _ (J27 _ _ hF)))))
      |false=>
       replace hF:=z56 hF
       exact oF 36 35 2 hF fun t36 hF=>oLi 37 3 hF fun t37 hF=>oB 38 hF fun t38 hF=>oA 39 (.bool t38) (lW _ (J27 _ _ hF))
     cases t28 with
     |true=>
      replace hF:=z55 hF
      exact WL.o (some 30) (WL.o (some 31) (WL.o (some 32) (WL.o (some 33) (oA 34 (.bool true) (lW _ (J24 _ _ hF))))))
     |false=>
      replace hF:=z56 hF
      exact oF 30 35 1 hF fun t30 hF=>oF 31 30 1 hF fun t31 hF=>oLi 32 3 hF fun t32 hF=>oB 33 hF fun t33 hF=>oA 34 (.bool t33) (lW _ (J24 _ _ hF))
    cases t22 with
    |true=>
     replace hF:=z55 hF
     exact WL.o (some 24) (WL.o (some 25) (WL.o (some 26) (WL.o (some 27) (oA 28 (.bool true) (lW _ (J21 _ _ hF))))))
    |false=>
     replace hF:=z56 hF
     exact oF 24 35 1 hF fun t24 hF=>oF 25 30 1 hF fun t25 hF=>oLi 26 3 hF fun t26 hF=>oB 27 hF fun t27 hF=>oA 28 (.bool t27) (lW _ (J21 _ _ hF))
   cases t16 with
   |true=>
    replace hF:=z55 hF
    exact WL.o (some 18) (WL.o (some 19) (WL.o (some 20) (WL.o (some 21) (oA 22 (.bool true) (lW _ (J18 _ _ hF))))))
   |false=>
    replace hF:=z56 hF
    exact oF 18 35 1 hF fun t18 hF=>oF 19 30 0 hF fun t19 hF=>oLi 20 3 hF fun t20 hF=>oB 21 hF fun t21 hF=>oA 22 (.bool t21) (lW _ (J18 _ _ hF))
  cases t10 with
  |true=>
   replace hF:=z55 hF
   exact WL.o (some 12) (WL.o (some 13) (WL.o (some 14) (WL.o (some 15) (oA 16 (.bool true) (lW _ (J15 _ _ hF))))))
  |false=>
   replace hF:=z56 hF
   exact oF 12 35 1 hF fun t12 hF=>oF 13 30 0 hF fun t13 hF=>oLi 14 3 hF fun t14 hF=>oB 15 hF fun t15 hF=>oA 16 (.bool t15) (lW _ (J15 _ _ hF))
 cases t5 with
 |true=>
  replace hF:=z55 hF
  exact WL.o (some 7) (WL.o (some 8) (WL.o (some 9) (oA 10 (.bool true) (lW _ (J12 _ _ hF)))))
 |false=>
  replace hF:=z56 hF
  exact oF 7 35 0 hF fun t7 hF=>oLi 8 3 hF fun t8 hF=>oB 9 hF fun t9 hF=>oA 10 (.bool t9) (lW _ (J12 _ _ hF))
noncomputable def z12b(call:z11)(_:Nat)(t0:List AV)(h:AHeap):R:=
 outK (za8 h 35 (some (.agg t0))) fun v1 h_2=>
 obind (z21 0 v1) fun t3=>
 obind (ze h_2 t3) fun v4=>
 obind (z16 .i64 v4) fun t4=>
 lett (IntKind.u64.wrap t4) fun (t5:Int)=>
 obind (z21 1 v1) fun t7=>
 obind (z21 0 t7) fun t8=>
 obind (ze h_2 t8) fun v9=>
 obind (z16 .i64 v9) fun t9=>
 lett (IntKind.u64.wrap t9) fun (t10:Int)=>
 obind (z21 1 v1) fun t13=>
 obind (z21 1 t13) fun t14=>
 obind (ze h_2 t14) fun v15=>
 obind (z16 .i64 v15) fun t15=>
 lett (IntKind.u64.wrap t15) fun (t16:Int)=>
 obind (z21 3 v1) fun t19=>
 obind (ze h_2 t19) fun v20=>
 obind (z16 .i64 v20) fun t20=>
 lett (IntKind.u64.wrap t20) fun (t21:Int)=>
 obind (z21 4 v1) fun t24=>
 obind (ze h_2 t24) fun v25=>
 obind (z2c v25) fun t25=>
 callN (call 70 [.int .u64 t5,.int .i64 8] h_2) fun r6 h_26=>
 obind (z2c r6) fun t6=>
 chk (z74 Try.prog h_26 9 t24 (zc t25)&&(z74 Try.prog h_26 3 t19 (.int .i64 t20)&&(z74 Try.prog h_26 3 t14 (.int .i64 t15)&&(z74 Try.prog h_26 3 t8 (.int .i64 t9)&&(true&&true)))))<|
 callN (call 70 [.int .u64 t10,.int .i64 8] h_26) fun r11 h_30=>
 obind (z2c r11) fun t11=>
 chk (z74 Try.prog h_30 9 t24 (zc t25)&&(z74 Try.prog h_30 3 t19 (.int .i64 t20)&&(z74 Try.prog h_30 3 t14 (.int .i64 t15)&&(true&&(true&&true)))))<|
 obind (z350 t6 t11) fun t12=>
 callN (call 70 [.int .u64 t16,.int .i64 8] h_30) fun r17 h_35=>
 obind (z2c r17) fun t17=>
 chk (z74 Try.prog h_35 9 t24 (zc t25)&&(z74 Try.prog h_35 3 t19 (.int .i64 t20)&&(true&&(true&&(true&&true)))))<|
 obind (z350 t12 t17) fun t18=>
 callN (call 70 [.int .u64 t21,.int .i64 8] h_35) fun r22 h_40=>
 obind (z2c r22) fun t22=>
 chk (z74 Try.prog h_40 9 t24 (zc t25)&&(true&&(true&&(true&&(true&&true)))))<|
 obind (z350 t18 t22) fun t23=>
 callN (call 71 [zc t25] h_40) fun r26 h_45=>
 obind (z2c r26) fun t26=>
 obind (z350 t23 t26) fun t27=>
 callN (call 69 [zc t27] h_45) fun r28 h_49=>
 obind (z2c r28) fun t28=>
 some (.ret (zc t28),h_49)
set_option maxHeartbeats 4000000 in
set_option maxRecDepth 20000 in
theorem z315{call:z11}(hc:SaysAll Try.prog call){n:Nat}{t0:List AV}{h:AHeap}{rR:ARes}{hR:AHeap}(hF:z12b call n t0 h=some (rR,hR)):Says Try.prog 46 [.agg t0] h rR hR:=by
 unfold z12b at hF;refine sO Try.func46 fun w0 m0=>wW [(0,.agg t0)] (oG fun n1=>W.r (oK 1 hF fun v1 h_2 hF=>oA 2 (zc ([]:Bytes)) (oV [(1,v1)] (n1 (oG fun n4=>y14 (by kernel_rfl) (hc.ok w0) (plan:=[0,1,2,4,5,6,7,10,11,12,13,16,17,18,21,22,3,8,9,14,15,19,20,23,24,25,26]) (by kernel_rfl) (by kernel_rfl) (by kernel_rfl) ?_)))));obtain⟨t3,e5,hF⟩:=z3 hF;refine WD.b 0 (some 3) t3 h_2 (z15 (P:=Try.prog) (h:=h_2) (s:=35) (f:=0) (by kernel_rfl) e5) ?_
 replace hF:=z3 hF;obtain⟨v4,e6,hF⟩:=hF
 replace hF:=z3 hF;obtain⟨t4,c7,hF⟩:=hF
 have c7:=z19 c7;subst c7;refine WD.b 1 (some 4) (.int .i64 t4) h_2 (z14 (P:=Try.prog) (h:=h_2) (t:=3) (by kernel_rfl) e6) ?_;obtain⟨t5,e8,hF⟩:=z9 hF;refine WD.val (d:=(some 5)) (v:=.int .u64 t5) (h':=h_2) (by kernel_rfl) (by kernel_rfl) (z2a (AV.int .u64) e8 (by kernel_rfl)) (k:=0) (by kernel_rfl) (fun e=>absurd e (by decide)) (by decide) ?_;obtain⟨t7,e9,hF⟩:=z3 hF;refine WD.b 0 (some 7) t7 h_2 (z15 (P:=Try.prog) (h:=h_2) (s:=35) (f:=1) (by kernel_rfl) e9) ?_;obtain⟨t8,e10,hF⟩:=z3 hF;refine WD.b 0 (some 8) t8 h_2 (z15 (P:=Try.prog) (h:=h_2) (s:=30) (f:=0) (by kernel_rfl) e10) ?_
 replace hF:=z3 hF;obtain⟨v9,e11,hF⟩:=hF
 replace hF:=z3 hF;obtain⟨t9,c12,hF⟩:=hF
 have c12:=z19 c12;subst c12;refine WD.b 1 (some 9) (.int .i64 t9) h_2 (z14 (P:=Try.prog) (h:=h_2) (t:=3) (by kernel_rfl) e11) ?_;obtain⟨t10,e13,hF⟩:=z9 hF;refine WD.val (d:=(some 10)) (v:=.int .u64 t10) (h':=h_2) (by kernel_rfl) (by kernel_rfl) (z2a (AV.int .u64) e13 (by kernel_rfl)) (k:=0) (by kernel_rfl) (fun e=>absurd e (by decide)) (by decide) ?_;obtain⟨t13,e14,hF⟩:=z3 hF;refine WD.b 0 (some 13) t13 h_2 (z15 (P:=Try.prog) (h:=h_2) (s:=35) (f:=1) (by kernel_rfl) e14) ?_;obtain⟨t14,e15,hF⟩:=z3 hF;refine WD.b 0 (some 14) t14 h_2 (z15 (P:=Try.prog) (h:=h_2) (s:=30) (f:=1) (by kernel_rfl) e15) ?_
 replace hF:=z3 hF;obtain⟨v15,e16,hF⟩:=hF
 replace hF:=z3 hF;obtain⟨t15,c17,hF⟩:=hF
 have c17:=z19 c17;subst c17;refine WD.b 1 (some 15) (.int .i64 t15) h_2 (z14 (P:=Try.prog) (h:=h_2) (t:=3) (by kernel_rfl) e16) ?_;obtain⟨t16,e18,hF⟩:=z9 hF;refine WD.val (d:=(some 16)) (v:=.int .u64 t16) (h':=h_2) (by kernel_rfl) (by kernel_rfl) (z2a (AV.int .u64) e18 (by kernel_rfl)) (k:=0) (by kernel_rfl) (fun e=>absurd e (by decide)) (by decide) ?_;obtain⟨t19,e19,hF⟩:=z3 hF;refine WD.b 0 (some 19) t19 h_2 (z15 (P:=Try.prog) (h:=h_2) (s:=35) (f:=2) (by kernel_rfl) e19) ?_
 replace hF:=z3 hF;obtain⟨v20,e20,hF⟩:=hF
 replace hF:=z3 hF;obtain⟨t20,c21,hF⟩:=hF
 have c21:=z19 c21;subst c21;refine WD.b 1 (some 20) (.int .i64 t20) h_2 (z14 (P:=Try.prog) (h:=h_2) (t:=3) (by kernel_rfl) e20) ?_;obtain⟨t21,e22,hF⟩:=z9 hF;refine WD.val (d:=(some 21)) (v:=.int .u64 t21) (h':=h_2) (by kernel_rfl) (by kernel_rfl) (z2a (AV.int .u64) e22 (by kernel_rfl)) (k:=0) (by kernel_rfl) (fun e=>absurd e (by decide)) (by decide) ?_;obtain⟨t24,e23,hF⟩:=z3 hF;refine WD.b 0 (some 24) t24 h_2 (z15 (P:=Try.prog) (h:=h_2) (s:=35) (f:=3) (by kernel_rfl) e23) ?_
 replace hF:=z3 hF;obtain⟨v25,e24,hF⟩:=hF
 replace hF:=z3 hF;obtain⟨t25,c25,hF⟩:=hF
 have c25:=z1d c25;subst c25;refine WD.b 1 (some 25) (zc t25) h_2 (z14 (P:=Try.prog) (h:=h_2) (t:=9) (by kernel_rfl) e24) ?_
 replace hF:=z1b hF;obtain⟨r6,h_26,e27,hF⟩:=hF
 replace hF:=z3 hF;obtain⟨t6,c28,hF⟩:=hF
 have c28:=z1d c28;subst c28;obtain⟨k29,hF⟩:=z73 hF;refine WD.call (d:=(some 6)) (by kernel_rfl) (by kernel_rfl) (by kernel_rfl) e27 (k:=2) (by kernel_rfl) (fun _=>(Eq.trans (by kernel_rfl) k29)) (by decide) ?_
 replace hF:=z1b hF;obtain⟨r11,h_30,e31,hF⟩:=hF
 replace hF:=z3 hF;obtain⟨t11,c32,hF⟩:=hF
 have c32:=z1d c32;subst c32;obtain⟨k33,hF⟩:=z73 hF;refine WD.call (d:=(some 11)) (by kernel_rfl) (by kernel_rfl) (by kernel_rfl) e31 (k:=2) (by kernel_rfl) (fun _=>(Eq.trans (by kernel_rfl) k33)) (by decide) ?_;obtain⟨t12,e34,hF⟩:=z3 hF;refine WD.b 0 (some 12) (zc t12) h_30 (z125 (P:=Try.prog) (h:=h_30) (t:=9) (lit:=false) e34) ?_
 replace hF:=z1b hF;obtain⟨r17,h_35,e36,hF⟩:=hF
 replace hF:=z3 hF;obtain⟨t17,c37,hF⟩:=hF
 have c37:=z1d c37;subst c37;obtain⟨k38,hF⟩:=z73 hF;refine WD.call (d:=(some 17)) (by kernel_rfl) (by kernel_rfl) (by kernel_rfl) e36 (k:=2) (by kernel_rfl) (fun _=>(Eq.trans (by kernel_rfl) k38)) (by decide) ?_;obtain⟨t18,e39,hF⟩:=z3 hF;refine WD.b 0 (some 18) (zc t18) h_35 (z125 (P:=Try.prog) (h:=h_35) (t:=9) (lit:=false) e39) ?_
 replace hF:=z1b hF;obtain⟨r22,h_40,e41,hF⟩:=hF
 replace hF:=z3 hF;obtain⟨t22,c42,hF⟩:=hF
 have c42:=z1d c42;subst c42;obtain⟨k43,hF⟩:=z73 hF;refine WD.call (d:=(some 22)) (by kernel_rfl) (by kernel_rfl) (by kernel_rfl) e41 (k:=2) (by kernel_rfl) (fun _=>(Eq.trans (by kernel_rfl) k43)) (by decide) ?_;obtain⟨t23,e44,hF⟩:=z3 hF;refine WD.b 0 (some 23) (zc t23) h_40 (z125 (P:=Try.prog) (h:=h_40) (t:=9) (lit:=false) e44) ?_
 replace hF:=z1b hF;obtain⟨r26,h_45,e46,hF⟩:=hF
 replace hF:=z3 hF;obtain⟨t26,c47,hF⟩:=hF
 have c47:=z1d c47;subst c47;refine WD.call (d:=(some 26)) (by kernel_rfl) (by kernel_rfl) (by kernel_rfl) e46 (k:=2) (by kernel_rfl) (fun _=>(by kernel_rfl)) (by decide) ?_;obtain⟨t27,e48,hF⟩:=z3 hF;refine WD.b 0 (some 27) (zc t27) h_45 (z125 (P:=Try.prog) (h:=h_45) (t:=9) (lit:=false) e48) ?_
 replace hF:=z1b hF;obtain⟨r28,h_49,e50,hF⟩:=hF
 replace hF:=z3 hF;obtain⟨t28,c51,hF⟩:=hF
 have c51:=z1d c51;subst c51;exact WD.call (d:=(some 28)) (by kernel_rfl) (by kernel_rfl) (by kernel_rfl) e50 (k:=2) (by kernel_rfl) (fun _=>(by kernel_rfl)) (by decide) (WD.a 0 (some 2) (zc t28) h_49 (WD.nil (gW [(2,zc t28)] (n4 (oY (lZ hF [.tmp 2] [zc t28] (rT zd)))))))
noncomputable def z107(_:z11)(_:Nat)(t0:Int)(h:AHeap):R:=lett (decide (t0>1099511627776)) fun (t4:Bool)=>ifB t4 (some (.ret (.int .i64 0),h)) (lett (IntKind.i64.wrap t0) fun (t6:Int)=>some (.ret (.int .i64 t6),h))
set_option maxHeartbeats 4000000 in
set_option maxRecDepth 20000 in
theorem z2d4{call:z11}(_:SaysAll Try.prog call){n:Nat}{t0:Int}{h:AHeap}{rR:ARes}{hR:AHeap}(hF:z107 call n t0 h=some (rR,hR)):Says Try.prog 64 [.int .u64 t0] h rR hR:=by
 unfold z107 at hF;refine sO Try.func64 fun w0 m0=>wW [(0,.int .u64 t0)] (oG fun n1=>W.r (oA 2 (.int .i64 0) (oV [(0,.int .u64 t0)] (n1 (oH fun n2 q2=>oG fun n3=>W.r (oA 3 (.int .u64 t0) (oB 4 hF fun t4 hF=>oV [(0,.int .u64 t0),(4,.bool t4)] (n3 ?_))))))))
 cases t4 with
 |true=>
  exact oT hF fun hF=>oG fun n5=>W.r (oA 2 (.int .i64 0) (oV [(2,.int .i64 0)] (n5 (oY (q2 (lZ hF [.tmp 2] [.int .i64 0] (rT zd)))))))
 |false=>
  exact oU hF fun hF=>oZ (n2 (oG fun n6=>W.r (oA 5 (.int .u64 t0) (oI 6 .i64 hF fun t6 hF=>oA 2 (.int .i64 t6) (oV [(2,.int .i64 t6)] (n6 (oY (lZ hF [.tmp 2] [.int .i64 t6] (rT zd)))))))))
noncomputable def z155(call:z11)(_:Nat)(t0:Bytes)(h:AHeap):R:=
 lett (newH h 35 [.int .i64 0,.int .i64 0,.int .i64 0,.int .i64 0,.str 0 0]) fun h_2=>
 outK (za8 h_2 134 (some (.agg ([zc t0,.int .i64 0,.int .i64 0,.int .i64 0]:List AV)))) fun v10 h_5=>
 lett (newH h_5 35 [.int .i64 0,.int .i64 0,.int .i64 0,.int .i64 0,.str 0 0]) fun h_8=>
 callN (call 65 [v10,.int .i64 8] h_8) fun r12 h_11=>
 obind (z16 .u64 r12) fun t12=>
 callN (call 64 [.int .u64 t12] h_11) fun r13 h_14=>
 obind (z16 .i64 r13) fun t13=>
 obind (z22 h_14 1 [.int .i64 t13] (AV.ptr (AHeap.next h_5) 0)) fun h_17=>
 callN (call 65 [v10,.int .i64 8] h_17) fun r16 h_20=>
 obind (z16 .u64 r16) fun t16=>
 callN (call 64 [.int .u64 t16] h_20) fun r17 h_23=>
 obind (z16 .i64 r17) fun t17=>
 obind (z22 h_23 1 [.int .i64 t17] (AV.ptr (AHeap.next h_5) 1)) fun h_26=>
 callN (call 65 [v10,.int .i64 8] h_26) fun r21 h_29=>
 obind (z16 .u64 r21) fun t21=>
 callN (call 64 [.int .u64 t21] h_29) fun r22 h_32=>
 obind (z16 .i64 r22) fun t22=>
 obind (z22 h_32 1 [.int .i64 t22] (AV.ptr (AHeap.next h_5) 2)) fun h_35=>
 callN (call 65 [v10,.int .i64 8] h_35) fun r26 h_38=>
 obind (z16 .u64 r26) fun t26=>
 callN (call 64 [.int .u64 t26] h_38) fun r27 h_41=>
 obind (z16 .i64 r27) fun t27=>
 obind (z22 h_41 1 [.int .i64 t27] (AV.ptr (AHeap.next h_5) 3)) fun h_44=>
 callN (call 66 [v10,.int .i64 64] h_44) fun r30 h_47=>
 obind (z2c r30) fun t30=>
 obind (z22 h_47 1 [zc t30] (AV.ptr (AHeap.next h_5) 4)) fun h_50=>
 callN (call 67 [v10] h_50) fun r34 h_53=>
 obind (z101 0 r34) fun v35=>
 obind (z16 .i64 v35) fun t35=>
 obind (z101 1 r34) fun v36=>
 obind (z16 .i64 v36) fun _=>
 lett (fun (t3:Bool) (h_61:AHeap)=>
  obind (z28 h_61 5 (z1a h)) fun w2=>
  some (.ret (.tup [.agg w2,.bool t3]),h_61)) fun k60=>
 obind (z28 h_53 5 (z1a h_5)) fun t37=>
 lett ((t35:Int) == 0) fun (t39:Bool)=>
 ifB t39
 (
  obind (z28 h_53 5 (z1a h_5)) fun t41=>
  callN (call 17 [.agg t41] h_53) fun r42 h_66=>
  obind (z16 .i64 r42) fun t42=>
  chk (true&&(z74 Try.prog h_66 35 (z1a h_5) (.agg t37)&&true))<|
  lett ((t42:Int) == 0) fun (t43:Bool)=>
  obind (z22 h_66 5 t37 (z1a h)) fun h_71=>
  k60 t43 h_71)
 (
  chk (z74 Try.prog h_53 35 (z1a h_5) (.agg t37)&&true)<|
  obind (z22 h_53 5 t37 (z1a h)) fun h_74=>
  k60 false h_74)
set_option maxHeartbeats 4000000 in
set_option maxRecDepth 20000 in
theorem z361{call:z11}(hc:SaysAll Try.prog call){n:Nat}{t0:Bytes}{h:AHeap}{rR:ARes}{hR:AHeap}(hF:z155 call n t0 h=some (rR,hR)):Says Try.prog 43 [zc t0] h rR hR:=by
 unfold z155 at hF;refine sO Try.func43 fun w0 m0=>wW [(0,zc t0)] (oG fun n1=>W.r (oN 2 hF fun h_2 hF=>oA 3 (.bool false) (oV [(0,zc t0),(2,(z1a h))] (n1 (oG fun n4=>W.r (oA 8 (zc t0) (oA 9 (.agg ([zc t0,.int .i64 0,.int .i64 0,.int .i64 0]:List AV)) (oK 10 hF fun v10 h_5 hF=>oA 4 v10 (oV [(2,(z1a h)),(4,v10)] (n4 (oG fun n7=>W.r (oN 5 hF fun h_8 hF=>oV [(2,(z1a h)),(4,v10),(5,(z1a h_5))] (n7 (oG fun n10=>W.r (oA 11 v10 (oCi hc 12 hF fun t12 h_11 hF=>oCi hc 13 hF fun t13 h_14 hF=>oA 14 (AV.ptr (AHeap.next h_5) 0) (oW 3 (.int .i64 t13) hF fun h_17 hF=>oV [(2,(z1a h)),(4,v10),(5,(z1a h_5))] (n10 (oG fun n19=>W.r (oA 15 v10 (oCi hc 16 hF fun t16 h_20 hF=>oCi hc 17 hF fun t17 h_23 hF=>oA 18 (AV.ptr (AHeap.next h_5) 1) (oA 19 (AV.ptr (AHeap.next h_5) 1) (oW 3 (.int .i64 t17) hF fun h_26 hF=>oV [(2,(z1a h)),(4,v10),(5,(z1a h_5))] (n19 (oG fun n28=>W.r (oA 20 v10 (oCi hc 21 hF fun t21 h_29 hF=>oCi hc 22 hF fun t22 h_32 hF=>oA 23 (AV.ptr (AHeap.next h_5) 1) (oA 24 (AV.ptr (AHeap.next h_5) 2) (oW 3 (.int .i64 t22) hF fun h_35 hF=>oV [(2,(z1a h)),(4,v10),(5,(z1a h_5))] (n28 (oG fun n37=>W.r (oA 25 v10 (oCi hc 26 hF fun t26 h_38 hF=>oCi hc 27 hF fun t27 h_41 hF=>oA 28 (AV.ptr (AHeap.next h_5) 3) (oW 3 (.int .i64 t27) hF fun h_44 hF=>oV [(2,(z1a h)),(4,v10),(5,(z1a h_5))] (n37 (oG fun n46=>W.r (oA 29 v10 (oCs hc 30 hF fun t30 h_47 hF=>oA 31 (AV.ptr (AHeap.next h_5) 4) (oW 9 (zc t30) hF fun h_50 hF=>oV [(2,(z1a h)),(4,v10),(5,(z1a h_5))] (n46 (oG fun n52=>W.r (oA 33 v10 (oC hc (some 34) hF fun r34 h_53 hF=>oA 32 r34 (oEi 35 hF fun t35 hF=>oEi 36 hF fun t36 hF=>oA 6 (.int .i64 t35) (oA 7 (.int .i64 t36) (oV [(2,(z1a h)),(5,(z1a h_5)),(6,.int .i64 t35)] (n52 ?_)))))))))))))))))))))))))))))))))))))))))))))));refine W.s (fun K59 n59 e59 q59 p59=>?_);obtain⟨k60,e60,hF⟩:=z9 hF
 have J60:∀(t3:Bool) (h_61:AHeap),k60 t3 h_61=some (rR,hR)→Go w0 m0 (Func.ntmps Try.f43) (K59 .normal) [(2,(z1a h)),(3,.bool t3)] [] h_61:=by
  intro t3 h_61 hF;rw[e60] at hF;refine n59 (oY ?_);obtain⟨w2,e62,hF⟩:=z3 hF;exact lZ hF [.cell 2 35,.tmp 3] [.agg w2,.bool t3] (rY e62 (rT zd))
 refine y14 (by kernel_rfl) (hc.ok w0) (plan:=[0,1,2,3,4,5,6,7,8,9]) (by kernel_rfl) (by kernel_rfl) (by kernel_rfl) ?_;obtain⟨t37,e63,hF⟩:=z3 hF;refine WD.b 1 (some 37) (.agg t37) h_53 (z35 (P:=Try.prog) (h:=h_53) (t:=35) (by kernel_rfl) (by kernel_rfl) e63) (WD.a 0 (some 38) (.int .i64 t35) h_53 ?_);obtain⟨t39,e64,hF⟩:=z9 hF;refine WD.val (d:=(some 39)) (v:=.bool t39) (h':=h_53) (by kernel_rfl) (by kernel_rfl) (z2a AV.bool e64 (by kernel_rfl)) (k:=0) (by kernel_rfl) (fun e=>absurd e (by decide)) (by decide) (WD.a 0 (some 40) (.bool t39) h_53 ?_)
 cases t39 with
 |true=>
  replace hF:=z55 hF
  obtain⟨t41,e65,hF⟩:=z3 hF;refine WD.b 1 (some 41) (.agg t41) h_53 (z35 (P:=Try.prog) (h:=h_53) (t:=35) (by kernel_rfl) (by kernel_rfl) e65) ?_
  replace hF:=z1b hF;obtain⟨r42,h_66,e67,hF⟩:=hF
  replace hF:=z3 hF;obtain⟨t42,c68,hF⟩:=hF
  have c68:=z19 c68;subst c68;obtain⟨k69,hF⟩:=z73 hF;refine WD.call (d:=(some 42)) (by kernel_rfl) (by kernel_rfl) (by kernel_rfl) e67 (k:=2) (by kernel_rfl) (fun _=>(Eq.trans (by kernel_rfl) k69)) (by decide) ?_;obtain⟨t43,e70,hF⟩:=z9 hF;refine WD.val (d:=(some 43)) (v:=.bool t43) (h':=h_66) (by kernel_rfl) (by kernel_rfl) (z2a AV.bool e70 (by kernel_rfl)) (k:=0) (by kernel_rfl) (fun e=>absurd e (by decide)) (by decide) (WD.a 0 (some 44) (.bool t43) h_66 ?_);obtain⟨h_71,e72,hF⟩:=z3 hF;exact WD.eff (h':=h_71) (by kernel_rfl) (by kernel_rfl) (Eq.trans (by kernel_rfl) (z3b (P:=Try.prog) (h:=h_66) (t:=35) (v:=(.agg t37)) (by kernel_rfl) (by kernel_rfl) e72)) (k:=2) (by kernel_rfl) (fun _=>(by kernel_rfl)) (by decide) (WD.a 0 (some 3) (.bool t43) h_71 (WD.nil (gW _ (J60 _ _ hF))))
 |false=>
  replace hF:=z56 hF
  refine oD 1 (some 41) ?_;obtain⟨k73,hF⟩:=z73 hF;refine WD.not (d:=(some 42)) (by kernel_rfl) (by kernel_rfl) (k:=2) (by kernel_rfl) (fun _=>(Eq.trans (by kernel_rfl) k73)) (by decide) (oD 0 (some 43) (WD.a 0 (some 44) (.bool false) h_53 ?_));obtain⟨h_74,e75,hF⟩:=z3 hF;exact WD.eff (h':=h_74) (by kernel_rfl) (by kernel_rfl) (Eq.trans (by kernel_rfl) (z3b (P:=Try.prog) (h:=h_53) (t:=35) (v:=(.agg t37)) (by kernel_rfl) (by kernel_rfl) e75)) (k:=2) (by kernel_rfl) (fun _=>(by kernel_rfl)) (by decide) (WD.a 0 (some 3) (.bool false) h_74 (WD.nil (gW _ (J60 _ _ hF))))
noncomputable def zec(t0:AV)(t1:Int)(h_2:AHeap)(k11:Int→AHeap→R)(self:Int→Int→AHeap→R)(t7_19:Int)(t8:Int)(h_20:AHeap):R:=obind (z18e t0) fun t11=>lett (decide (t8<t11)) fun (t12:Bool)=>ifB t12 (obind (z17a 5 t0 t8) fun t17=>obind (z21 0 t17) fun t18=>obind (ze h_20 t18) fun v19=>obind (z16 .i64 v19) fun t19=>lett ((t19:Int) == t1) fun (t21:Bool)=>lett (fun (t7_34:Int) (h_35:AHeap)=>lett (IntKind.i64.wrap (t8+1)) fun (t14:Int)=>self t7_34 t14 h_35) fun k33=>ifB t21 (obind (z17a 5 t0 t8) fun t24=>obind (z21 1 t24) fun t25=>obind (z28 h_20 2 t25) fun t26=>obind (z22 h_20 2 t26 (z1a h_2)) fun h_41=>obind (z17a 5 t0 t8) fun t29=>obind (z21 3 t29) fun t30=>obind (ze h_41 t30) fun v31=>obind (z16 .i64 v31) fun t31=>lett (IntKind.i64.wrap (t31+1)) fun (t32:Int)=>k33 t32 h_41) (k33 t7_19 h_20)) (k11 t7_19 h_20)
noncomputable def z116(t0:AV)(t1:Int)(h_2:AHeap)(k11:Int→AHeap→R):Nat→Int→Int→AHeap→R:=z143 (fun _ _ _=>none) (zec t0 t1 h_2 k11)
theorem z169(t0:AV)(t1:Int)(h_2:AHeap)(k11:Int→AHeap→R)(m:Nat):z116 t0 t1 h_2 k11 (m+1)=zec t0 t1 h_2 k11 (z116 t0 t1 h_2 k11 m):=rfl
noncomputable def z157(_:z11)(n:Nat)(t0:AV)(t1:Int)(h:AHeap):R:=lett (newH h 30 [.int .i64 0,.int .i64 0]) fun h_2=>lett (newH h_2 30 [.int .i64 0,.int .i64 0]) fun h_5=>lett (fun (t7:Int) (h_12:AHeap)=>obind (z28 h_12 2 (z1a h_2)) fun t33=>obind (z22 h_12 2 t33 (z1a h)) fun h_15=>obind (z28 h_15 2 (z1a h)) fun w4=>some (.ret (.tup [.agg w4,.int .i64 t7]),h_15)) fun k11=>z116 t0 t1 h_2 k11 n 1 0 h_5
set_option maxHeartbeats 4000000 in
set_option maxRecDepth 20000 in
theorem z363{call:z11}(_:SaysAll Try.prog call){n:Nat}{t0:AV}{t1:Int}{h:AHeap}{rR:ARes}{hR:AHeap}(hF:z157 call n t0 t1 h=some (rR,hR)):Says Try.prog 29 [t0,.int .i64 t1] h rR hR:=by
 unfold z157 at hF;refine sO Try.func29 fun w0 m0=>wW [(0,t0),(1,.int .i64 t1)] (oG fun n1=>W.r (oN 4 hF fun h_2 hF=>oA 5 (.int .i64 0) (oV [(0,t0),(1,.int .i64 t1),(4,(z1a h))] (n1 (oG fun n4=>W.r (oN 6 hF fun h_5 hF=>oV [(0,t0),(1,.int .i64 t1),(4,(z1a h)),(6,(z1a h_2))] (n4 (oG fun n7=>W.r (oA 7 (.int .i64 1) (oV [(0,t0),(1,.int .i64 t1),(4,(z1a h)),(6,(z1a h_2)),(7,.int .i64 1)] (n7 (W.s (fun K8 n8 e8 q8 p8=>oG fun n9=>W.r (oA 8 (.int .i64 0) (oV [(0,t0),(1,.int .i64 t1),(4,(z1a h)),(6,(z1a h_2)),(7,.int .i64 1),(8,.int .i64 0)] (n9 ?_))))))))))))))));obtain⟨k11,e11,hF⟩:=z9 hF
 have J11:∀(t7:Int) (h_12:AHeap),k11 t7 h_12=some (rR,hR)→Go w0 m0 (Func.ntmps Try.f29) (K8 .normal) [(4,(z1a h)),(6,(z1a h_2)),(7,.int .i64 t7)] [] h_12:=by
  intro t7 h_12 hF;rw[e11] at hF;refine n8 (oG fun n13=>W.r (oR 33 30 hF fun t33 hF=>oA 34 (.int .i64 t7) (oW 30 (.agg t33) hF fun h_15 hF=>oA 5 (.int .i64 t7) (oV [(4,(z1a h)),(5,.int .i64 t7)] (n13 (oY ?_))))));obtain⟨w4,e17,hF⟩:=z3 hF;exact lZ hF [.cell 4 30,.tmp 5] [.agg w4,.int .i64 t7] (rY e17 (rT zd))
 refine W.blockK (by kernel_rfl) (fun K10 n10 s10 o10 q10 p10=>W.loopK (by kernel_rfl) (fun I18 K18 b18 n18 e18 q18 p18=>?_))
 have L18:∀(m:Nat) (t7_19:Int) (t8:Int) (h_20:AHeap),z116 t0 t1 h_2 k11 m t7_19 t8 h_20=some (rR,hR)→Go w0 m0 (Func.ntmps Try.f29) I18 [(0,t0),(1,.int .i64 t1),(4,(z1a h)),(6,(z1a h_2)),(7,.int .i64 t7_19),(8,.int .i64 t8)] [] h_20:=by
  intro m
  induction m with
  |zero=>intro t7_19 t8 h_20 hF;cases hF
  |succ m ih18=>
   intro t7_19 t8 h_20 hF;rw[z169] at hF;unfold zec at hF;refine b18 (W.s (fun K21 n21 e21 q21 p21=>oG fun n22=>W.r (oA 9 (.int .i64 t8) (oA 10 t0 (oM 11 39 35 hF fun t11 hF=>oB 12 hF fun t12 hF=>oV [(0,t0),(1,.int .i64 t1),(4,(z1a h)),(6,(z1a h_2)),(7,.int .i64 t7_19),(8,.int .i64 t8),(12,.bool t12)] (n22 ?_))))))
   cases t12 with
   |true=>
    refine oT hF fun hF=>oZ (n21 (oG fun n25=>W.blockK (by kernel_rfl) (fun K26 n26 s26 o26 q26 p26=>oG fun n27=>W.r (oA 15 t0 (oA 16 (.int .i64 t8) (oP 17 39 35 .i64 hF fun t17 hF=>oF 18 35 0 hF fun t18 hF=>oLi 19 3 hF fun t19 hF=>oA 20 (.int .i64 t1) (oB 21 hF fun t21 hF=>oV [(0,t0),(1,.int .i64 t1),(4,(z1a h)),(6,(z1a h_2)),(7,.int .i64 t7_19),(8,.int .i64 t8),(21,.bool t21)] (n27 ?_))))))));obtain⟨k33,e33,hF⟩:=z9 hF
    have J33:∀(t7_34:Int) (h_35:AHeap),k33 t7_34 h_35=some (rR,hR)→Go w0 m0 (Func.ntmps Try.f29) (K26 .normal) [(0,t0),(1,.int .i64 t1),(4,(z1a h)),(6,(z1a h_2)),(7,.int .i64 t7_34),(8,.int .i64 t8)] [] h_35:=by
     intro t7_34 h_35 hF;rw[e33] at hF;exact n26 (n25 (W.r (oA 13 (.int .i64 t8) (oI 14 .i64 hF fun t14 hF=>oA 8 (.int .i64 t14) (oV [(0,t0),(1,.int .i64 t1),(4,(z1a h)),(6,(z1a h_2)),(7,.int .i64 t7_34),(8,.int .i64 t14)] (n18 (gW _ (ih18 _ _ _ hF))))))))
    cases t21 with
    |true=>
     exact oT hF fun hF=>oG fun n37=>W.r (oA 22 t0 (oA 23 (.int .i64 t8) (oP 24 39 35 .i64 hF fun t24 hF=>oF 25 35 1 hF fun t25 hF=>oR 26 30 hF fun t26 hF=>oW 30 (.agg t26) hF fun h_41 hF=>oV [(0,t0),(1,.int .i64 t1),(4,(z1a h)),(6,(z1a h_2)),(8,.int .i64 t8)] (n37 (W.r (oA 27 t0 (oA 28 (.int .i64 t8) (oP 29 39 35 .i64 hF fun t29 hF=>oF 30 35 2 hF fun t30 hF=>oLi 31 3 hF fun t31 hF=>oI 32 .i64 hF fun t32 hF=>oA 7 (.int .i64 t32) (oV [(0,t0),(1,.int .i64 t1),(4,(z1a h)),(6,(z1a h_2)),(7,.int .i64 t32),(8,.int .i64 t8)] (gW _ (J33 _ _ hF)))))))))))
    |false=>
     exact oU hF fun hF=>oZ (gW _ (J33 _ _ hF))
   |false=>
    exact oU hF fun hF=>W.exit (by kernel_rfl) (e21 (e18 (s10 (by kernel_rfl) (gW _ (J11 _ _ hF)))))
 exact gW _ (L18 _ _ _ _ hF)
noncomputable def z196(call:z11)(_:Nat)(t0:AV)(t1:List AV)(h:AHeap):R:=outK (za8 h 35 (some (.agg t1))) fun v3 h_2=>obind (z28 h_2 5 v3) fun t8=>callN (call 17 [.agg t8] h_2) fun r9 h_7=>obind (z16 .i64 r9) fun t9=>lett ((t9:Int) != 0) fun (t11:Bool)=>ifB t11 (some (.ret (.int .i64 t9),h_7)) (obind (z21 0 v3) fun t15=>obind (ze h_7 t15) fun v16=>obind (z16 .i64 v16) fun t16=>callN (call 29 [t0,.int .i64 t16] h_7) fun r17 h_17=>obind (z101 0 r17) fun v18=>obind (z104 v18) fun t18=>obind (z101 1 r17) fun v19=>obind (z16 .i64 v19) fun t19=>lett (newH h_17 30 [.int .i64 0,.int .i64 0]) fun h_23=>obind (z22 h_23 2 t18 (z1a h_17)) fun h_25=>obind (ze h_25 (AV.ptr (AHeap.next h_17) 0)) fun v21=>obind (z16 .i64 v21) fun t21=>obind (z21 1 v3) fun t22=>obind (z21 0 t22) fun t23=>obind (ze h_25 t23) fun v24=>obind (z16 .i64 v24) fun t24=>lett (decide (t21>t24)) fun (t25:Bool)=>lett (fun (t41:Bool) (h_36:AHeap)=>ifB t41 (some (.ret (.int .i64 220),h_36)) (obind (z21 3 v3) fun t42=>obind (ze h_36 t42) fun v43=>obind (z16 .i64 v43) fun t43=>lett ((t43:Int) != t19) fun (t45:Bool)=>ifB t45 (some (.ret (.int .i64 221),h_36)) (some (.ret (.int .i64 0),h_36)))) fun j41=>ifB t25 (j41 true h_25) (obind (ze h_25 (AV.ptr (AHeap.next h_17) 0)) fun v28=>obind (z16 .i64 v28) fun t28=>obind (z21 1 v3) fun t29=>obind (z21 0 t29) fun t30=>obind (ze h_25 t30) fun v31=>obind (z16 .i64 v31) fun t31=>lett ((t28:Int) == t31) fun (t32:Bool)=>lett (fun (t40:Bool) (h_55:AHeap)=>j41 t40 h_55) fun j40=>ifB t32 (obind (ze h_25 (AV.ptr (AHeap.next h_17) 1)) fun v35=>obind (z16 .i64 v35) fun t35=>obind (z21 1 v3) fun t36=>obind (z21 1 t36) fun t37=>obind (ze h_25 t37) fun v38=>obind (z16 .i64 v38) fun t38=>lett (decide (t35>t38)) fun (t39:Bool)=>j40 t39 h_25) (j40 false h_25)))
set_option maxHeartbeats 4000000 in
set_option maxRecDepth 20000 in
theorem z3bd{call:z11}(hc:SaysAll Try.prog call){n:Nat}{t0:AV}{t1:List AV}{h:AHeap}{rR:ARes}{hR:AHeap}(hF:z196 call n t0 t1 h=some (rR,hR)):Says Try.prog 44 [t0,.agg t1] h rR hR:=by
 unfold z196 at hF;refine sO Try.func44 fun w0 m0=>wW [(0,t0),(1,.agg t1)] (oG fun n1=>W.r (oK 3 hF fun v3 h_2 hF=>oA 4 (.int .i64 0) (oV [(0,t0),(3,v3)] (n1 (oH fun n4 q4=>oG fun n5=>W.r (oR 8 35 hF fun t8 hF=>oCi hc 9 hF fun t9 h_7 hF=>oA 5 (.int .i64 t9) (oV [(0,t0),(3,v3),(5,.int .i64 t9)] (n5 (oG fun n10=>W.r (oA 10 (.int .i64 t9) (oB 11 hF fun t11 hF=>oV [(0,t0),(3,v3),(5,.int .i64 t9),(11,.bool t11)] (n10 ?_))))))))))))
 cases t11 with
 |true=>
  exact oT hF fun hF=>oG fun n12=>W.r (oA 12 (.int .i64 t9) (oA 4 (.int .i64 t9) (oV [(4,.int .i64 t9)] (n12 (oY (q4 (lZ hF [.tmp 4] [.int .i64 t9] (rT zd))))))))
 |false=>
  refine oU hF fun hF=>oZ (n4 (oG fun n13=>W.r (oA 14 t0 (oF 15 35 0 hF fun t15 hF=>oLi 16 3 hF fun t16 hF=>oC hc (some 17) hF fun r17 h_17 hF=>oA 13 r17 (oEa 18 hF fun t18 hF=>oEi 19 hF fun t19 hF=>oN 6 hF fun h_23 hF=>oW 30 (.agg t18) hF fun h_25 hF=>oA 7 (.int .i64 t19) (oV [(3,v3),(6,(z1a h_17)),(7,.int .i64 t19)] (n13 (oH fun n27 q27=>W.s (fun K28 n28 e28 q28 p28=>W.r (oA 20 (AV.ptr (AHeap.next h_17) 0) (oLi 21 3 hF fun t21 hF=>oF 22 35 1 hF fun t22 hF=>oF 23 30 0 hF fun t23 hF=>oLi 24 3 hF fun t24 hF=>oB 25 hF fun t25 hF=>oA 26 (.bool t25) ?_)))))))))));obtain⟨j41,e37,hF⟩:=z9 hF
  have J38:∀(t41:Bool) (h_36:AHeap),j41 t41 h_36=some (rR,hR)→WL Try.prog w0 m0 (Func.ntmps Try.f44) (Code.ops (y7 (y7 (y6 (y6 (y6 (z32 Try.f44))))))) 22 K28 [(3,v3),(7,.int .i64 t19),(41,.bool t41)] [] h_36:=by
   intro t41 h_36 hF;rw[e37] at hF;refine oV [(3,v3),(7,.int .i64 t19),(41,.bool t41)] (n28 ?_)
   cases t41 with
   |true=>
    exact oT hF fun hF=>oG fun n39=>W.r (oA 4 (.int .i64 220) (oV [(4,.int .i64 220)] (n39 (oY (q27 (lZ hF [.tmp 4] [.int .i64 220] (rT zd)))))))
   |false=>
    refine oU hF fun hF=>oZ (n27 (oH fun n40 q40=>oG fun n41=>W.r (oF 42 35 2 hF fun t42 hF=>oLi 43 3 hF fun t43 hF=>oA 44 (.int .i64 t19) (oB 45 hF fun t45 hF=>oV [(45,.bool t45)] (n41 ?_)))))
    cases t45 with
    |true=>
     exact oT hF fun hF=>oG fun n46=>W.r (oA 4 (.int .i64 221) (oV [(4,.int .i64 221)] (n46 (oY (q40 (lZ hF [.tmp 4] [.int .i64 221] (rT zd)))))))
    |false=>
     exact oU hF fun hF=>oZ (n40 (oG fun n47=>W.r (oA 4 (.int .i64 0) (oV [(4,.int .i64 0)] (n47 (oY (lZ hF [.tmp 4] [.int .i64 0] (rT zd))))))))
  cases t25 with
  |true=>
   replace hF:=z55 hF
   exact WL.o (some 27) (WL.o (some 28) (WL.o (some 29) (WL.o (some 30) (WL.o (some 31) (WL.o (some 32) (WL.o (some 33) (WL.o (some 34) (WL.o (some 35) (WL.o (some 36) (WL.o (some 37) (WL.o (some 38) (WL.o (some 39) (WL.o (some 40) (oA 41 (.bool true) (lW _ (J38 _ _ hF))))))))))))))))
  |false=>
   replace hF:=z56 hF
   refine oA 27 (AV.ptr (AHeap.next h_17) 0) (oLi 28 3 hF fun t28 hF=>oF 29 35 1 hF fun t29 hF=>oF 30 30 0 hF fun t30 hF=>oLi 31 3 hF fun t31 hF=>oB 32 hF fun t32 hF=>oA 33 (.bool t32) ?_);obtain⟨j40,e56,hF⟩:=z9 hF
   have J57:∀(t40:Bool) (h_55:AHeap),j40 t40 h_55=some (rR,hR)→WL Try.prog w0 m0 (Func.ntmps Try.f44) (Code.ops (y7 (y7 (y6 (y6 (y6 (z32 Try.f44))))))) 21 K28 [(3,v3),(7,.int .i64 t19),(26,.bool false),(40,.bool t40)] [] h_55:=by
    intro t40 h_55 hF;rw[e56] at hF;exact oA 41 (.bool t40) (lW _ (J38 _ _ hF))
   cases t32 with
   |true=>
    replace hF:=z55 hF
    exact oA 34 (AV.ptr (AHeap.next h_17) 1) (oLi 35 3 hF fun t35 hF=>oF 36 35 1 hF fun t36 hF=>oF 37 30 1 hF fun t37 hF=>oLi 38 3 hF fun t38 hF=>oB 39 hF fun t39 hF=>oA 40 (.bool t39) (lW _ (J57 _ _ hF)))
   |false=>
    replace hF:=z56 hF
    exact WL.o (some 34) (WL.o (some 35) (WL.o (some 36) (WL.o (some 37) (WL.o (some 38) (WL.o (some 39) (oA 40 (.bool false) (lW _ (J57 _ _ hF))))))))
noncomputable def zeb(call:z11)(v27:AV)(v31:AV)(k30:Int→AHeap→R)(self:Int→Int→AHeap→R)(t9_54:Int)(t10:Int)(h_55:AHeap):R:=
 obind (z18e v31) fun t35=>
 lett (decide (t10<t35)) fun (t36:Bool)=>
 ifB t36
 (
  obind (z17a 1 v31 t10) fun t42=>
  obind (ze h_55 t42) fun v43=>
  obind (z2c v43) fun t43=>
  callN (call 43 [zc t43] h_55) fun r44 h_66=>
  obind (z101 0 r44) fun v45=>
  obind (z104 v45) fun t45=>
  obind (z101 1 r44) fun v46=>
  obind (z33 v46) fun t46=>
  lett (newH h_66 35 [.int .i64 0,.int .i64 0,.int .i64 0,.int .i64 0,.str 0 0]) fun h_72=>
  obind (z22 h_72 5 t45 (z1a h_66)) fun h_74=>
  lett (fun (t57:Bool) (h_79:AHeap)=>
   ifB t57
   (
    k30 t9_54 h_79)
   (
    obind (z39 v27) fun t60=>
    obind (z21 1 t60) fun t61=>
    obind (ze h_79 t61) fun v62=>
    obind (z28 h_79 5 (z1a h_66)) fun t63=>
    outK (z183 Try.prog h_79 39 1 [(0,.agg t63)]) fun v64 h_85=>
    chk (true&&(z74 Try.prog h_85 39 t61 v62&&true))<|
    outK (z34 Try.prog h_85 39 39 v62 v64) fun v65 h_88=>
    obind (z39 v27) fun t66=>
    obind (z21 1 t66) fun t67=>
    obind (z22 h_88 1 (AV.cells v65) t67) fun h_92=>
    lett (IntKind.i64.wrap (t9_54+12)) fun (t69:Int)=>
    obind (z17a 1 v31 t10) fun t72=>
    obind (ze h_92 t72) fun v73=>
    obind (z2c v73) fun t73=>
    lett (IntKind.i64.wrap (t69+(z65 t73))) fun (t75:Int)=>
    lett (IntKind.i64.wrap (t10+1)) fun (t38:Int)=>
    self t75 t38 h_92)) fun k78=>
  lett (!t46) fun (t48:Bool)=>
  ifB t48
  (
   k78 true h_74)
  (
   obind (z39 v27) fun t51=>
   obind (z21 1 t51) fun t52=>
   obind (ze h_74 t52) fun v53=>
   obind (z28 h_74 5 (z1a h_66)) fun t54=>
   callN (call 44 [v53,.agg t54] h_74) fun r55 h_105=>
   obind (z16 .i64 r55) fun t55=>
   lett ((t55:Int) != 0) fun (t56:Bool)=>
   k78 t56 h_105))
 (
  k30 t9_54 h_55)
noncomputable def z115(call:z11)(v27:AV)(v31:AV)(k30:Int→AHeap→R):Nat→Int→Int→AHeap→R:=z143 (fun _ _ _=>none) (zeb call v27 v31 k30)
theorem z168(call:z11)(v27:AV)(v31:AV)(k30:Int→AHeap→R)(m:Nat):z115 call v27 v31 k30 (m+1)=zeb call v27 v31 k30 (z115 call v27 v31 k30 m):=rfl
noncomputable def z156(call:z11)(n:Nat)(t0:AV)(h:AHeap):R:=callN (call 41 [t0,.int .i64 0] h) fun r15 h_3=>obind (z101 0 r15) fun v16=>obind (z2c v16) fun t16=>obind (z101 1 r15) fun v17=>obind (z16 .i64 v17) fun t17=>lett ((t17:Int) != 0) fun (t19:Bool)=>lett (fun (t23:Bool) (h_12:AHeap)=>ifB t23 (some (.ret (.tup [AV.nilp,.int .i64 t17]),h_12)) (obind (z392 Try.prog 75 [(0,t0)]) fun t26=>outK (za8 h_12 75 (some (.agg t26))) fun v27 h_18=>callN (call 42 [zc t16] h_18) fun r30 h_21=>obind (z101 0 r30) fun v31=>obind (z101 1 r30) fun v32=>obind (z16 .i64 v32) fun _=>lett (fun (t9:Int) (h_31:AHeap)=>lett (decide (t9<(z65 t16))) fun (t79:Bool)=>lett (fun (h_36:AHeap)=>some (.ret (.tup [v27,.int .i64 0]),h_36)) fun k35=>ifB t79 (callN (call 24 [t0,.int .i64 0,.agg ([.int .i64 2,.str 0 0,.int .i64 t9]:List AV)] h_31) fun r83 h_39=>obind (z16 .i64 r83) fun t83=>lett ((t83:Int) == 0) fun (t85:Bool)=>lett (fun (t5:Int) (h_46:AHeap)=>lett ((t5:Int) != 0) fun (t89:Bool)=>ifB t89 (some (.ret (.tup [AV.nilp,.int .i64 t5]),h_46)) (k35 h_46)) fun k45=>ifB t85 (callN (call 45 [t0,.int .i64 0] h_39) fun r87 h_50=>obind (z16 .i64 r87) fun t87=>k45 t87 h_50) (k45 t83 h_39)) (k35 h_31)) fun k30=>z115 call v27 v31 k30 n 0 0 h_21)) fun j23=>ifB t19 (lett ((t17:Int) != 4) fun (t22:Bool)=>j23 t22 h_3) (j23 false h_3)
set_option maxHeartbeats 4000000 in
set_option maxRecDepth 20000 in
theorem z362{call:z11}(hc:SaysAll Try.prog call){n:Nat}{t0:AV}{h:AHeap}{rR:ARes}{hR:AHeap}(hF:z156 call n t0 h=some (rR,hR)):Says Try.prog 20 [t0] h rR hR:=by
 unfold z156 at hF;refine sO Try.func20 fun w0 m0=>wW [(0,t0)] (oG fun n1=>W.r (oA 2 AV.nilp (oA 3 (.int .i64 0) (oV [(0,t0)] (n1 (oG fun n2=>W.r (oA 14 t0 (oC hc (some 15) hF fun r15 h_3 hF=>oA 13 r15 (oEs 16 hF fun t16 hF=>oEi 17 hF fun t17 hF=>oA 4 (zc t16) (oA 5 (.int .i64 t17) (oV [(0,t0),(4,zc t16),(5,.int .i64 t17)] (n2 (oH fun n9 q9=>W.s (fun K10 n10 e10 q10 p10=>W.r (oA 18 (.int .i64 t17) (oB 19 hF fun t19 hF=>oA 20 (.bool t19) ?_))))))))))))))));obtain⟨j23,e13,hF⟩:=z9 hF
 have J14:∀(t23:Bool) (h_12:AHeap),j23 t23 h_12=some (rR,hR)→WL Try.prog w0 m0 (Func.ntmps Try.f20) (Code.ops (y7 (y7 (y6 (y6 (z32 Try.f20)))))) 6 K10 [(0,t0),(4,zc t16),(5,.int .i64 t17),(23,.bool t23)] [] h_12:=by
  intro t23 h_12 hF;rw[e13] at hF;refine oV [(0,t0),(4,zc t16),(5,.int .i64 t17),(23,.bool t23)] (n10 ?_)
  cases t23 with
  |true=>
   exact oT hF fun hF=>oG fun n15=>W.r (oA 24 (.int .i64 t17) (oA 2 AV.nilp (oA 3 (.int .i64 t17) (oV [(2,AV.nilp),(3,.int .i64 t17)] (n15 (oY (q9 (lZ hF [.tmp 2,.tmp 3] [AV.nilp,.int .i64 t17] (rT (rT zd))))))))))
  |false=>
   refine oU hF fun hF=>oZ (n9 (oG fun n16=>W.r (oA 25 t0 ?_)));obtain⟨t26,e17,hF⟩:=z3 hF;refine WL.val (d:=(some 26)) (v:=.agg t26) (h':=h_12) (by kernel_rfl) (by kernel_rfl) (z262 (by kernel_rfl) e17) (oK 27 hF fun v27 h_18 hF=>oA 6 v27 (oV [(0,t0),(4,zc t16),(6,v27)] (n16 (oG fun n20=>W.r (oA 29 (zc t16) (oC hc (some 30) hF fun r30 h_21 hF=>oA 28 r30 (oE 31 hF fun v31 hF=>oEi 32 hF fun t32 hF=>oA 7 v31 (oA 8 (.int .i64 t32) (oV [(0,t0),(4,zc t16),(6,v27),(7,v31)] (n20 (oG fun n26=>W.r (oA 9 (.int .i64 0) (oV [(0,t0),(4,zc t16),(6,v27),(7,v31),(9,.int .i64 0)] (n26 (W.s (fun K27 n27 e27 q27 p27=>oG fun n28=>W.r (oA 10 (.int .i64 0) (oV [(0,t0),(4,zc t16),(6,v27),(7,v31),(9,.int .i64 0),(10,.int .i64 0)] (n28 ?_)))))))))))))))))));obtain⟨k30,e30,hF⟩:=z9 hF
   have J30:∀(t9:Int) (h_31:AHeap),k30 t9 h_31=some (rR,hR)→Go w0 m0 (Func.ntmps Try.f20) (K27 .normal) [(0,t0),(4,zc t16),(6,v27),(9,.int .i64 t9)] [] h_31:=by
    intro t9 h_31 hF;rw[e30] at hF;refine n27 (W.s (fun K32 n32 e32 q32 p32=>oG fun n33=>W.r (oA 76 (.int .i64 t9) (oA 77 (zc t16) (oA 78 (.int .i64 (z65 t16)) (oB 79 hF fun t79 hF=>oV [(0,t0),(6,v27),(9,.int .i64 t9),(79,.bool t79)] (n33 ?_)))))));obtain⟨k35,e35,hF⟩:=z9 hF
    have J35:∀(h_36:AHeap),k35 h_36=some (rR,hR)→Go w0 m0 (Func.ntmps Try.f20) (K32 .normal) [(6,v27)] [] h_36:=by
     intro h_36 hF;rw[e35] at hF;exact n32 (oG fun n37=>W.r (oA 91 v27 (oA 2 v27 (oA 3 (.int .i64 0) (oV [(2,v27),(3,.int .i64 0)] (n37 (oY (lZ hF [.tmp 2,.tmp 3] [v27,.int .i64 0] (rT (rT zd))))))))))
    cases t79 with
    |true=>
     refine oT hF fun hF=>oG fun n38=>W.r (oA 80 t0 (oA 81 (.int .i64 t9) (oA 82 (.agg ([.int .i64 2,.str 0 0,.int .i64 t9]:List AV)) (oCi hc 83 hF fun t83 h_39 hF=>oA 5 (.int .i64 t83) (oV [(0,t0),(5,.int .i64 t83),(6,v27)] (n38 (W.s (fun K42 n42 e42 q42 p42=>oG fun n43=>W.r (oA 84 (.int .i64 t83) (oB 85 hF fun t85 hF=>oV [(0,t0),(5,.int .i64 t83),(6,v27),(85,.bool t85)] (n43 ?_)))))))))));obtain⟨k45,e45,hF⟩:=z9 hF
     have J45:∀(t5:Int) (h_46:AHeap),k45 t5 h_46=some (rR,hR)→Go w0 m0 (Func.ntmps Try.f20) (K42 .normal) [(5,.int .i64 t5),(6,v27)] [] h_46:=by
      intro t5 h_46 hF;rw[e45] at hF;refine n42 (oG fun n47=>W.r (oA 88 (.int .i64 t5) (oB 89 hF fun t89 hF=>oV [(5,.int .i64 t5),(6,v27),(89,.bool t89)] (n47 ?_))))
      cases t89 with
      |true=>
       exact oT hF fun hF=>oG fun n49=>W.r (oA 90 (.int .i64 t5) (oA 2 AV.nilp (oA 3 (.int .i64 t5) (oV [(2,AV.nilp),(3,.int .i64 t5)] (n49 (oY (q32 (lZ hF [.tmp 2,.tmp 3] [AV.nilp,.int .i64 t5] (rT (rT zd))))))))))
      |false=>
       exact oU hF fun hF=>oZ (gW _ (J35 _ hF))
     cases t85 with
     |true=>
      exact oT hF fun hF=>W.r (oA 86 t0 (oCi hc 87 hF fun t87 h_50 hF=>oA 5 (.int .i64 t87) (oV [(5,.int .i64 t87),(6,v27)] (gW _ (J45 _ _ hF)))))
     |false=>
      exact oU hF fun hF=>oZ (gW _ (J45 _ _ hF))
    |false=>
     exact oU hF fun hF=>oZ (gW _ (J35 _ hF))
   refine W.blockK (by kernel_rfl) (fun K29 n29 s29 o29 q29 p29=>W.loopK (by kernel_rfl) (fun I53 K53 b53 n53 e53 q53 p53=>?_))
   have L53:∀(m:Nat) (t9_54:Int) (t10:Int) (h_55:AHeap),z115 call v27 v31 k30 m t9_54 t10 h_55=some (rR,hR)→Go w0 m0 (Func.ntmps Try.f20) I53 [(0,t0),(4,zc t16),(6,v27),(7,v31),(9,.int .i64 t9_54),(10,.int .i64 t10)] [] h_55:=by
    intro m
    induction m with
    |zero=>intro t9_54 t10 h_55 hF;cases hF
    |succ m ih53=>
     intro t9_54 t10 h_55 hF;rw[z168] at hF;unfold zeb at hF;refine b53 (W.s (fun K56 n56 e56 q56 p56=>oG fun n57=>W.r (oA 33 (.int .i64 t10) (oA 34 v31 (oM 35 104 9 hF fun t35 hF=>oB 36 hF fun t36 hF=>oV [(0,t0),(4,zc t16),(6,v27),(7,v31),(9,.int .i64 t9_54),(10,.int .i64 t10),(36,.bool t36)] (n57 ?_))))))
     cases t36 with
     |true=>
      refine oT hF fun hF=>oZ (n56 (W.s (fun K60 n60 e60 q60 p60=>W.blockK (by kernel_rfl) (fun K61 n61 s61 o61 q61 p61=>oG fun n62=>W.r (oA 40 v31 (oA 41 (.int .i64 t10) (oP 42 104 9 .i64 hF fun t42 hF=>oLs 43 9 hF fun t43 hF=>oC hc (some 44) hF fun r44 h_66 hF=>oA 39 r44 (oEa 45 hF fun t45 hF=>oEb 46 hF fun t46 hF=>oN 11 hF fun h_72 hF=>oW 35 (.agg t45) hF fun h_74 hF=>oA 12 (.bool t46) (oV [(0,t0),(4,zc t16),(6,v27),(7,v31),(9,.int .i64 t9_54),(10,.int .i64 t10),(11,(z1a h_66)),(12,.bool t46)] (n62 (W.s (fun K76 n76 e76 q76 p76=>W.s (fun K77 n77 e77 q77 p77=>?_)))))))))))));obtain⟨k78,e78,hF⟩:=z9 hF
      have J78:∀(t57:Bool) (h_79:AHeap),k78 t57 h_79=some (rR,hR)→Go w0 m0 (Func.ntmps Try.f20) (K77 .normal) [(0,t0),(4,zc t16),(6,v27),(7,v31),(9,.int .i64 t9_54),(10,.int .i64 t10),(11,(z1a h_66)),(57,.bool t57)] [] h_79:=by
       intro t57 h_79 hF;rw[e78] at hF;refine n77 ?_
       cases t57 with
       |true=>
        exact oT hF fun hF=>W.exit (by kernel_rfl) (e76 (o61 (by kernel_rfl) (e60 (e53 (s29 (by kernel_rfl) (gW _ (J30 _ _ hF)))))))
       |false=>
        refine oU hF fun hF=>oZ (n76 (oG fun n80=>y14 (by kernel_rfl) (hc.ok w0) (plan:=[0,1,2,3,4,5,6,7,8,9,10]) (by kernel_rfl) (by kernel_rfl) (by kernel_rfl) (WD.a 0 (some 58) v27 h_79 (WD.a 0 (some 59) v27 h_79 ?_))));obtain⟨t60,e81,hF⟩:=z3 hF;refine WD.b 0 (some 60) t60 h_79 (z24 (h:=h_79) e81) ?_;obtain⟨t61,e82,hF⟩:=z3 hF;refine WD.b 0 (some 61) t61 h_79 (z15 (P:=Try.prog) (h:=h_79) (s:=75) (f:=1) (by kernel_rfl) e82) ?_;obtain⟨v62,e83,hF⟩:=z3 hF;refine WD.b 1 (some 62) v62 h_79 (z14 (P:=Try.prog) (h:=h_79) (t:=39) (by kernel_rfl) e83) ?_;obtain⟨t63,e84,hF⟩:=z3 hF;refine WD.b 1 (some 63) (.agg t63) h_79 (z35 (P:=Try.prog) (h:=h_79) (t:=35) (by kernel_rfl) (by kernel_rfl) e84) ?_;obtain⟨v64,h_85,e86,hF⟩:=z1e hF;obtain⟨k87,hF⟩:=z73 hF;refine WD.val (d:=(some 64)) (v:=v64) (h':=h_85) (by kernel_rfl) (by kernel_rfl) (Eq.trans (by kernel_rfl) e86) (k:=2) (by kernel_rfl) (fun _=>(Eq.trans (by kernel_rfl) k87)) (by decide) ?_;obtain⟨v65,h_88,e89,hF⟩:=z1e hF;refine WD.val (d:=(some 65)) (v:=v65) (h':=h_88) (by kernel_rfl) (by kernel_rfl) (Eq.trans (by kernel_rfl) e89) (k:=2) (by kernel_rfl) (fun _=>(by kernel_rfl)) (by decide) ?_;obtain⟨t66,e90,hF⟩:=z3 hF;refine WD.b 0 (some 66) t66 h_88 (z24 (h:=h_88) e90) ?_;obtain⟨t67,e91,hF⟩:=z3 hF;refine WD.b 0 (some 67) t67 h_88 (z15 (P:=Try.prog) (h:=h_88) (s:=75) (f:=1) (by kernel_rfl) e91) ?_;obtain⟨h_92,e93,hF⟩:=z3 hF;exact WD.eff (h':=h_92) (by kernel_rfl) (by kernel_rfl) (Eq.trans (by kernel_rfl) (z3b (P:=Try.prog) (h:=h_88) (t:=39) (v:=v65) (by kernel_rfl) (by kernel_rfl) e93)) (k:=2) (by kernel_rfl) (fun _=>(by kernel_rfl)) (by decide) (WD.nil (gW [(0,t0),(4,zc t16),(6,v27),(7,v31),(9,.int .i64 t9_54),(10,.int .i64 t10)] (n80 (W.r (oA 68 (.int .i64 t9_54) (oI 69 .i64 hF fun t69 hF=>oA 70 v31 (oA 71 (.int .i64 t10) (oP 72 104 9 .i64 hF fun t72 hF=>oLs 73 9 hF fun t73 hF=>oA 74 (.int .i64 (z65 t73)) (oI 75 .i64 hF fun t75 hF=>oA 9 (.int .i64 t75) (oV [(0,t0),(4,zc t16),(6,v27),(7,v31),(9,.int .i64 t75),(10,.int .i64 t10)] (n61 (n60 (W.r (oA 37 (.int .i64 t10) (oI 38 .i64 hF fun t38 hF=>oA 10 (.int .i64 t38) (oV [(0,t0),(4,zc t16),(6,v27),(7,v31),(9,.int .i64 t75),(10,.int .i64 t38)] (n53 (gW _ (ih53 _ _ _ hF)))))))))))))))))))
      refine y14 (by kernel_rfl) (hc.ok w0) (plan:=[0,1,2,3,4,5,6,7,8,9,10]) (by kernel_rfl) (by kernel_rfl) (by kernel_rfl) (WD.a 0 (some 47) (.bool t46) h_74 ?_);obtain⟨t48,e100,hF⟩:=z9 hF;refine WD.val (d:=(some 48)) (v:=.bool t48) (h':=h_74) (by kernel_rfl) (by kernel_rfl) (z2a AV.bool e100 (by kernel_rfl)) (k:=0) (by kernel_rfl) (fun e=>absurd e (by decide)) (by decide) (WD.a 0 (some 49) (.bool t48) h_74 ?_)
      cases t48 with
      |true=>
       replace hF:=z55 hF
       exact oD 0 (some 50) (oD 0 (some 51) (oD 0 (some 52) (oD 1 (some 53) (oD 1 (some 54) (WD.not (d:=(some 55)) (by kernel_rfl) (by kernel_rfl) (k:=2) (by kernel_rfl) (fun _=>(by kernel_rfl)) (by decide) (oD 0 (some 56) (WD.a 0 (some 57) (.bool true) h_74 (WD.nil (gW _ (J78 _ _ hF))))))))))
      |false=>
       replace hF:=z56 hF
       refine WD.a 0 (some 50) v27 h_74 ?_;obtain⟨t51,e101,hF⟩:=z3 hF;refine WD.b 0 (some 51) t51 h_74 (z24 (h:=h_74) e101) ?_;obtain⟨t52,e102,hF⟩:=z3 hF;refine WD.b 0 (some 52) t52 h_74 (z15 (P:=Try.prog) (h:=h_74) (s:=75) (f:=1) (by kernel_rfl) e102) ?_;obtain⟨v53,e103,hF⟩:=z3 hF;refine WD.b 1 (some 53) v53 h_74 (z14 (P:=Try.prog) (h:=h_74) (t:=39) (by kernel_rfl) e103) ?_;obtain⟨t54,e104,hF⟩:=z3 hF;refine WD.b 1 (some 54) (.agg t54) h_74 (z35 (P:=Try.prog) (h:=h_74) (t:=35) (by kernel_rfl) (by kernel_rfl) e104) ?_
       replace hF:=z1b hF;obtain⟨r55,h_105,e106,hF⟩:=hF
       replace hF:=z3 hF;obtain⟨t55,c107,hF⟩:=hF
       have c107:=z19 c107;subst c107;refine WD.call (d:=(some 55)) (by kernel_rfl) (by kernel_rfl) (by kernel_rfl) e106 (k:=2) (by kernel_rfl) (fun _=>(by kernel_rfl)) (by decide) ?_;obtain⟨t56,e108,hF⟩:=z9 hF;exact WD.val (d:=(some 56)) (v:=.bool t56) (h':=h_105) (by kernel_rfl) (by kernel_rfl) (z2a AV.bool e108 (by kernel_rfl)) (k:=0) (by kernel_rfl) (fun e=>absurd e (by decide)) (by decide) (WD.a 0 (some 57) (.bool t56) h_105 (WD.nil (gW _ (J78 _ _ hF))))
     |false=>
      exact oU hF fun hF=>W.exit (by kernel_rfl) (e56 (e53 (s29 (by kernel_rfl) (gW _ (J30 _ _ hF)))))
   exact gW _ (L53 _ _ _ _ hF)
 cases t19 with
 |true=>
  replace hF:=z55 hF
  exact oA 21 (.int .i64 t17) (oB 22 hF fun t22 hF=>oA 23 (.bool t22) (lW _ (J14 _ _ hF)))
 |false=>
  replace hF:=z56 hF
  exact WL.o (some 21) (WL.o (some 22) (oA 23 (.bool false) (lW _ (J14 _ _ hF))))
noncomputable def z77(call:z11)(_:Nat)(t0:AV)(t1:List AV)(h:AHeap):R:=
 outK (za8 h 35 (some (.agg t1))) fun v3 h_2=>
 obind (z39 t0) fun t8=>
 obind (z21 2 t8) fun t9=>
 obind (ze h_2 t9) fun v10=>
 obind (z16 .i64 v10) fun t10=>
 lett ((t10:Int) != 0) fun (t11:Bool)=>
 ifB t11
 (
  obind (z39 t0) fun t13=>
  obind (z21 2 t13) fun t14=>
  obind (ze h_2 t14) fun v15=>
  obind (z16 .i64 v15) fun t15=>
  some (.ret (.int .i64 t15),h_2))
 (
  obind (z39 t0) fun t17=>
  obind (z21 1 t17) fun t18=>
  obind (ze h_2 t18) fun v19=>
  obind (z28 h_2 5 v3) fun t20=>
  callN (call 44 [v19,.agg t20] h_2) fun r21 h_21=>
  obind (z16 .i64 r21) fun t21=>
  lett ((t21:Int) != 0) fun (t23:Bool)=>
  ifB t23
  (
   some (.ret (.int .i64 t21),h_21))
  (
   obind (z39 t0) fun t26=>
   obind (z21 0 t26) fun t27=>
   obind (ze h_21 t27) fun v28=>
   obind (z28 h_21 5 v3) fun t29=>
   callN (call 46 [.agg t29] h_21) fun r30 h_33=>
   obind (z2c r30) fun t30=>
   chk (true&&(z74 Try.prog h_33 47 t27 v28&&true))<|
   callN (call 24 [v28,.int .i64 0,.agg ([.int .i64 1,zc t30,.int .i64 0]:List AV)] h_33) fun r32 h_37=>
   obind (z16 .i64 r32) fun t32=>
   lett ((t32:Int) == 0) fun (t34:Bool)=>
   lett (fun (t5:Int) (h_44:AHeap)=>
    lett ((t5:Int) != 0) fun (t41:Bool)=>
    ifB t41
    (
     obind (z39 t0) fun t44=>
     obind (z21 2 t44) fun t45=>
     obind (z22 h_44 1 [.int .i64 t5] t45) fun h_51=>
     some (.ret (.int .i64 t5),h_51))
    (
     obind (z39 t0) fun t49=>
     obind (z21 1 t49) fun t50=>
     obind (ze h_44 t50) fun v51=>
     outK (z34 Try.prog h_44 39 39 AV.nsl v51) fun v52 h_59=>
     obind (z28 h_59 5 v3) fun t55=>
     outK (z183 Try.prog h_59 39 1 [(0,.agg t55)]) fun v56 h_63=>
     outK (z34 Try.prog h_63 39 39 v52 v56) fun v57 h_65=>
     obind (z39 t0) fun t58=>
     obind (z21 1 t58) fun t59=>
     obind (z22 h_65 1 (AV.cells v57) t59) fun h_69=>
     some (.ret (.int .i64 0),h_69))) fun k43=>
   ifB t34
   (
    obind (z39 t0) fun t36=>
    obind (z21 0 t36) fun t37=>
    obind (ze h_37 t37) fun v38=>
    callN (call 45 [v38,.int .i64 0] h_37) fun r39 h_75=>
    obind (z16 .i64 r39) fun t39=>
    k43 t39 h_75)
   (
    k43 t32 h_37)))
set_option maxHeartbeats 4000000 in
set_option maxRecDepth 20000 in
theorem z1fb{call:z11}(hc:SaysAll Try.prog call){n:Nat}{t0:AV}{t1:List AV}{h:AHeap}{rR:ARes}{hR:AHeap}(hF:z77 call n t0 t1 h=some (rR,hR)):Says Try.prog 21 [t0,.agg t1] h rR hR:=by
 unfold z77 at hF;refine sO Try.func21 fun w0 m0=>wW [(0,t0),(1,.agg t1)] (oG fun n1=>W.r (oK 3 hF fun v3 h_2 hF=>oA 4 (.int .i64 0) (oV [(0,t0),(3,v3)] (n1 (oH fun n4 q4=>oG fun n5=>W.r (oA 7 t0 (oC0 8 hF fun t8 hF=>oF 9 75 2 hF fun t9 hF=>oLi 10 3 hF fun t10 hF=>oB 11 hF fun t11 hF=>oV [(0,t0),(3,v3),(11,.bool t11)] (n5 ?_))))))))
 cases t11 with
 |true=>
  exact oT hF fun hF=>oG fun n11=>W.r (oA 12 t0 (oC0 13 hF fun t13 hF=>oF 14 75 2 hF fun t14 hF=>oLi 15 3 hF fun t15 hF=>oA 4 (.int .i64 t15) (oV [(4,.int .i64 t15)] (n11 (oY (q4 (lZ hF [.tmp 4] [.int .i64 t15] (rT zd))))))))
 |false=>
  refine oU hF fun hF=>oZ (n4 (oG fun n16=>y14 (by kernel_rfl) (hc.ok w0) (plan:=[0,1,2,3,4,5,6]) (by kernel_rfl) (by kernel_rfl) (by kernel_rfl) (WD.a 0 (some 16) t0 h_2 ?_)));obtain⟨t17,e17,hF⟩:=z3 hF;refine WD.b 0 (some 17) t17 h_2 (z24 (h:=h_2) e17) ?_;obtain⟨t18,e18,hF⟩:=z3 hF;refine WD.b 0 (some 18) t18 h_2 (z15 (P:=Try.prog) (h:=h_2) (s:=75) (f:=1) (by kernel_rfl) e18) ?_;obtain⟨v19,e19,hF⟩:=z3 hF;refine WD.b 1 (some 19) v19 h_2 (z14 (P:=Try.prog) (h:=h_2) (t:=39) (by kernel_rfl) e19) ?_;obtain⟨t20,e20,hF⟩:=z3 hF;refine WD.b 1 (some 20) (.agg t20) h_2 (z35 (P:=Try.prog) (h:=h_2) (t:=35) (by kernel_rfl) (by kernel_rfl) e20) ?_
  replace hF:=z1b hF;obtain⟨r21,h_21,e22,hF⟩:=hF
  replace hF:=z3 hF;obtain⟨t21,c23,hF⟩:=hF
  have c23:=z19 c23;subst c23;refine WD.call (d:=(some 21)) (by kernel_rfl) (by kernel_rfl) (by kernel_rfl) e22 (k:=2) (by kernel_rfl) (fun _=>(by kernel_rfl)) (by decide) (WD.a 0 (some 5) (.int .i64 t21) h_21 (WD.nil (gW [(0,t0),(3,v3),(5,.int .i64 t21)] (n16 (oH fun n24 q24=>oG fun n25=>W.r (oA 22 (.int .i64 t21) (oB 23 hF fun t23 hF=>oV [(0,t0),(3,v3),(5,.int .i64 t21),(23,.bool t23)] (n25 ?_))))))))
  cases t23 with
  |true=>
   exact oT hF fun hF=>oG fun n27=>W.r (oA 24 (.int .i64 t21) (oA 4 (.int .i64 t21) (oV [(4,.int .i64 t21)] (n27 (oY (q24 (lZ hF [.tmp 4] [.int .i64 t21] (rT zd))))))))
  |false=>
   refine oU hF fun hF=>oZ (n24 (oG fun n28=>y14 (by kernel_rfl) (hc.ok w0) (plan:=[0,1,2,3,4,5,6,7,8]) (by kernel_rfl) (by kernel_rfl) (by kernel_rfl) (WD.a 0 (some 25) t0 h_21 ?_)));obtain⟨t26,e29,hF⟩:=z3 hF;refine WD.b 0 (some 26) t26 h_21 (z24 (h:=h_21) e29) ?_;obtain⟨t27,e30,hF⟩:=z3 hF;refine WD.b 0 (some 27) t27 h_21 (z15 (P:=Try.prog) (h:=h_21) (s:=75) (f:=0) (by kernel_rfl) e30) ?_;obtain⟨v28,e31,hF⟩:=z3 hF;refine WD.b 1 (some 28) v28 h_21 (z14 (P:=Try.prog) (h:=h_21) (t:=47) (by kernel_rfl) e31) ?_;obtain⟨t29,e32,hF⟩:=z3 hF;refine WD.b 1 (some 29) (.agg t29) h_21 (z35 (P:=Try.prog) (h:=h_21) (t:=35) (by kernel_rfl) (by kernel_rfl) e32) ?_
   replace hF:=z1b hF;obtain⟨r30,h_33,e34,hF⟩:=hF
   replace hF:=z3 hF;obtain⟨t30,c35,hF⟩:=hF
   have c35:=z1d c35;subst c35;obtain⟨k36,hF⟩:=z73 hF;refine WD.call (d:=(some 30)) (by kernel_rfl) (by kernel_rfl) (by kernel_rfl) e34 (k:=2) (by kernel_rfl) (fun _=>(Eq.trans (by kernel_rfl) k36)) (by decide) (WD.a 0 (some 31) (.agg ([.int .i64 1,zc t30,.int .i64 0]:List AV)) h_33 ?_)
   replace hF:=z1b hF;obtain⟨r32,h_37,e38,hF⟩:=hF
   replace hF:=z3 hF;obtain⟨t32,c39,hF⟩:=hF
   have c39:=z19 c39;subst c39;refine WD.call (d:=(some 32)) (by kernel_rfl) (by kernel_rfl) (by kernel_rfl) e38 (k:=2) (by kernel_rfl) (fun _=>(by kernel_rfl)) (by decide) (WD.a 0 (some 5) (.int .i64 t32) h_37 (WD.nil (gW [(0,t0),(3,v3),(5,.int .i64 t32)] (n28 (W.s (fun K40 n40 e40 q40 p40=>oG fun n41=>W.r (oA 33 (.int .i64 t32) (oB 34 hF fun t34 hF=>oV [(0,t0),(3,v3),(5,.int .i64 t32),(34,.bool t34)] (n41 ?_)))))))));obtain⟨k43,e43,hF⟩:=z9 hF
   have J43:∀(t5:Int) (h_44:AHeap),k43 t5 h_44=some (rR,hR)→Go w0 m0 (Func.ntmps Try.f21) (K40 .normal) [(0,t0),(3,v3),(5,.int .i64 t5)] [] h_44:=by
    intro t5 h_44 hF;rw[e43] at hF;refine n40 (oH fun n45 q45=>oG fun n46=>W.r (oA 40 (.int .i64 t5) (oB 41 hF fun t41 hF=>oV [(0,t0),(3,v3),(5,.int .i64 t5),(41,.bool t41)] (n46 ?_))))
    cases t41 with
    |true=>
     exact oT hF fun hF=>oG fun n48=>W.r (oA 42 t0 (oA 43 (.int .i64 t5) (oC0 44 hF fun t44 hF=>oF 45 75 2 hF fun t45 hF=>oW 3 (.int .i64 t5) hF fun h_51 hF=>oV [(5,.int .i64 t5)] (n48 (oG fun n53=>W.r (oA 46 (.int .i64 t5) (oA 4 (.int .i64 t5) (oV [(4,.int .i64 t5)] (n53 (oY (q45 (lZ hF [.tmp 4] [.int .i64 t5] (rT zd)))))))))))))
    |false=>
     exact oU hF fun hF=>oZ (n45 (oG fun n54=>W.r (oA 6 AV.nsl (oV [(0,t0),(3,v3),(6,AV.nsl)] (n54 (oG fun n55=>W.r (oA 47 AV.nsl (oA 48 t0 (oC0 49 hF fun t49 hF=>oF 50 75 1 hF fun t50 hF=>oL 51 39 hF fun v51 hF=>oK 52 hF fun v52 h_59 hF=>oA 6 v52 (oV [(0,t0),(3,v3),(6,v52)] (n55 (oG fun n61=>W.r (oA 53 t0 (oA 54 v52 (oR 55 35 hF fun t55 hF=>oK 56 hF fun v56 h_63 hF=>oK 57 hF fun v57 h_65 hF=>oC0 58 hF fun t58 hF=>oF 59 75 1 hF fun t59 hF=>oW 39 v57 hF fun h_69 hF=>oV [] (n61 (oG fun n71=>W.r (oA 4 (.int .i64 0) (oV [(4,.int .i64 0)] (n71 (oY (lZ hF [.tmp 4] [.int .i64 0] (rT zd)))))))))))))))))))))))
   cases t34 with
   |true=>
    exact oT hF fun hF=>W.r (oA 35 t0 (oC0 36 hF fun t36 hF=>oF 37 75 0 hF fun t37 hF=>oL 38 47 hF fun v38 hF=>oCi hc 39 hF fun t39 h_75 hF=>oA 5 (.int .i64 t39) (oV [(0,t0),(3,v3),(5,.int .i64 t39)] (gW _ (J43 _ _ hF)))))
   |false=>
    exact oU hF fun hF=>oZ (gW _ (J43 _ _ hF))
noncomputable def worldF(n:Nat)(call:z11):z11:=z19f [(8,gcF (fn0 (z1b6 call n))),(23,fn3 Dv (Di .i64) Ds (z91 call n)),(34,fn2 Dv (Di .i64) (zc3 call n)),(33,fn3 Dv (Di .i64) (Di .i64) (ze1 call n)),(22,fn2 Dv (Di .i64) (zaf call n)),(72,fn1 Dv (z10e call n)),(27,fn1 Dv (ze0 call n)),(47,fn2 Dv (Di .i64) (z7b call n)),(48,fn3 Dv (Di .i64) Da (z90 call n)),(56,fn2 Dv Dv (zae call n)),(57,fn1 Dv (zc2 call n)),(52,gcF (fn1 (Di .i64) (z103 call n))),(31,fn2 Dv (Di .i64) (zc5 call n)),(26,fn2 Dv (Di .i64) (zc4 call n)),(28,fn2 Dv (Di .i64) (zb0 call n)),(13,fn3 Dv Dv (Di .i64) (zb1 call n)),(38,fn3 Dv (Di .i64) (Di .i64) (zad call n)),(61,fn1 Dv (z7a call n)),(83,fn1 Dv (z3e call n)),(94,gcF (fn2 (Di .u32) Ds (z1e4 call n))),(92,gcF (fn1 Ds (z325 call n))),(81,gcF (fn1 Ds (z10d call n))),(86,gcF (fn1 Ds (z133 call n))),(60,gcF (fn1 Ds (z19d call n))),(74,gcF (fn1 Ds (z15f call n))),(54,fn1 Ds (z19e call n)),(82,gcF (fn1 (Di .u32) (z1e1 call n))),(58,gcF (fn1 (Di .u64) (z1e0 call n))),(75,gcF (fn1 Ds (z1e2 call n))),(79,gcF (fn2 (Di .u64) (Di .i64) (z129 call n))),(80,gcF (fn1 Ds (z12a call n))),(59,gcF (fn1 Ds (z18f call n))),(85,fn1 Dv (za1 call n)),(76,fn1 Dv (za0 call n)),(78,fn1 Dv (za2 call n)),(91,fn1 Dv (z76 call n)),(87,fn2 Dv (Di .i64) (z68 call n)),(90,fn1 Dv (z75 call n)),(89,fn3 Dv (Di .i64) (Di .i64) (z8b call n)),(88,fn2 Dv (Di .i64) (z8a call n)),(77,fn2 Dv (Di .i64) (z8c call n)),(16,gcF (fn1 Da (zdf call n))),(40,gcF (fn1 Da (zab call n))),(10,fn2 Dv (Di .i64) (z59 call n)),(11,fn2 Dv Da (z50 call n)),(35,fn2 Dv Da (z49 call n)),(37,fn2 Dv Da (z62 call n)),(39,fn1 Dv (z80 call n)),(36,gcF (fn1 Da (zc1 call n))),(55,gcF (fn1 Ds (zc0 call n))),(53,gcF (fn2 Da Da (zdc call n))),(19,gcF (fn0 (z16b call n))),(24,fn3 Dv (Di .i64) Da (z78 call n)),(45,fn2 Dv (Di .i64) (za4 call n)),(25,fn3 Dv Dv (Di .i64) (z8d call n)),(41,fn2 Dv (Di .i64) (za5 call n)),(49,fn2 Dv (Di .i64) (zbe call n)),(50,fn3 Dv (Di .i64) (Di .i64) (za3 call n)),(68,gcF (fn1 Da (z12d call n))),(51,gcF (fn2 Da Da (z12e call n))),(42,fn1 Ds (z159 call n)),(63,gcF (fn1 Ds (z158 call n))),(69,gcF (fn1 Ds (z197 call n))),(70,gcF (fn2 (Di .u64) (Di .i64) (z109 call n))),(71,gcF (fn1 Ds (z15c call n))),(65,fn2 Dv (Di .i64) (z61 call n)),(66,fn2 Dv (Di .i64) (z79 call n)),(67,fn1 Dv (z8e call n)),(84,gcF (fn1 Ds (z1e6 call n))),(93,gcF (fn2 (Di .u32) Ds (z15b call n))),(95,gcF (fn2 (Di .u32) (Di .u32) (z15a call n))),(17,gcF (fn1 Da (z12c call n))),(46,gcF (fn1 Da (z12b call n))),(64,gcF (fn1 (Di .u64) (z107 call n))),(43,gcF (fn1 Ds (z155 call n))),(29,fn2 Dv (Di .i64) (z157 call n)),(44,fn2 Dv Da (z196 call n)),(20,fn1 Dv (z156 call n)),(21,fn2 Dv Da (z77 call n))]
set_option maxRecDepth 20000 in
theorem worldF_ok(n:Nat)(call:z11)(hc:SaysAll Try.prog call):SaysAll Try.prog (worldF n call):=(zf (z29 (z2ee (z437 hc)))
 (zf (z122 Dv (Di .i64) Ds (z227 hc))
 (zf (z2e Dv (Di .i64) (z291 hc))
 (zf (z122 Dv (Di .i64) (Di .i64) (z2b4 hc))
 (zf (z2e Dv (Di .i64) (z25b hc))
 (zf (z1f Dv (z2f8 hc))
 (zf (z1f Dv (z2b3 hc))
 (zf (z2e Dv (Di .i64) (z202 hc))
 (zf (z122 Dv (Di .i64) Da (z226 hc))
 (zf (z2e Dv Dv (z25a hc))
 (zf (z1f Dv (z290 hc))
 (zf (z29 (z1f (Di .i64) (z321 hc)))
 (zf (z2e Dv (Di .i64) (z293 hc))
 (zf (z2e Dv (Di .i64) (z292 hc))
 (zf (z2e Dv (Di .i64) (z25c hc))
 (zf (z122 Dv Dv (Di .i64) (z25d hc))
 (zf (z122 Dv (Di .i64) (Di .i64) (z259 hc))
 (zf (z1f Dv (z201 hc))
 (zf (z1f Dv (z14f hc))
 (zf (z29 (z2e (Di .u32) Ds (z40b hc)))
 (zf (z29 (z1f Ds (sum_Of_ok hc)))
 (zf (z29 (z1f Ds (z2ed hc)))
 (zf (z29 (z1f Ds (z31e hc)))
 (zf (z29 (z1f Ds (z3e1 hc)))
 (zf (z29 (z1f Ds (z380 hc)))
 (zf (z1f Ds (z3e2 hc))
 (zf (z29 (z1f (Di .u32) (z401 hc)))
 (zf (z29 (z1f (Di .u64) (z400 hc)))
 (zf (z29 (z1f Ds (z402 hc)))
 (zf (z29 (z2e (Di .u64) (Di .i64) (z30b hc)))
 (zf (z29 (z1f Ds (z30c hc)))
 (zf (z29 (z1f Ds (z39b hc)))
 (zf (z1f Dv (z22d hc))
 (zf (z1f Dv (z22c hc))
 (zf (z1f Dv (z22e hc))
 (zf (z1f Dv (z1f7 hc))
 (zf (z2e Dv (Di .i64) (z1c7 hc))
 (zf (z1f Dv (z1f6 hc))
 (zf (z122 Dv (Di .i64) (Di .i64) (z20a hc))
 (zf (z2e Dv (Di .i64) (z209 hc))
 (zf (z2e Dv (Di .i64) (z20b hc))
 (zf (z29 (z1f Da (z2b2 hc)))
 (zf (z29 (z1f Da (z24f hc)))
 (zf (z2e Dv (Di .i64) (z1b2 hc))
 (zf (z2e Dv Da (z1c5 hc))
 (zf (z2e Dv Da (z17f hc))
 (zf (z2e Dv Da (z1c3 hc))
 (zf (z1f Dv (z1c4 hc))
 (zf (z29 (z1f Da (z288 hc)))
 (zf (z29 (z1f Ds (z287 hc)))
 (zf (z29 (z2e Da Da (z2ae hc)))
 (zf (z29 (z2ee (z3be hc)))
 (zf (z122 Dv (Di .i64) Da (z1fc hc))
 (zf (z2e Dv (Di .i64) (z241 hc))
 (zf (z122 Dv Dv (Di .i64) (z218 hc))
 (zf (z2e Dv (Di .i64) (z242 hc))
 (zf (z2e Dv (Di .i64) (z27b hc))
 (zf (z122 Dv (Di .i64) (Di .i64) (z240 hc))
 (zf (z29 (z1f Da (z364 hc)))
 (zf (z29 (z2e Da Da (z365 hc)))
 (zf (z1f Ds (z367 hc))
 (zf (z29 (z1f Ds (z366 hc)))
 (zf (z29 (z1f Ds (z3bf hc)))
 (zf (z29 (z2e (Di .u64) (Di .i64) (z2d5 hc)))
 (zf (z29 (z1f Ds (z36a hc)))
 (zf (z2e Dv (Di .i64) (z1c1 hc))
 (zf (z2e Dv (Di .i64) (z1fd hc))
 (zf (z1f Dv (z219 hc))
 (zf (z29 (z1f Ds (z413 hc)))
 (zf (z29 (z2e (Di .u32) Ds (z369 hc)))
 (zf (z29 (z2e (Di .u32) (Di .u32) (z368 hc)))
 (zf (z29 (z1f Da (z316 hc)))
 (zf (z29 (z1f Da (z315 hc)))
 (zf (z29 (z1f (Di .u64) (z2d4 hc)))
 (zf (z29 (z1f Ds (z361 hc)))
 (zf (z2e Dv (Di .i64) (z363 hc))
 (zf (z2e Dv Da (z3bd hc))
 (zf (z1f Dv (z362 hc))
 (zf (z2e Dv Da (z1fb hc))
 z34f)))))))))))))))))))))))))))))))))))))))))))))))))))))))))))))))))))))))))))))))
noncomputable def world(n d:Nat):z11:=iterW (worldF n) d
theorem world_ok(n d:Nat):SaysAll Try.prog (world n d):=z464 (worldF_ok n) d
theorem z488(n d:Nat)(h:AHeap):world n (d+1) 8 [] h=gcR h (z1b6 (world n d) n h):=
 Eq.trans (b:=gcR h (fn0 (z1b6 (world n d) n) [] h)) (by kernel_rfl) (congrArg (gcR h) (fn0_eq _ h))
theorem z236(n d:Nat)(t0:AV)(t1:Int)(t2:Bytes)(h:AHeap):world n (d+1) 23 [t0,.int .i64 t1,zc t2] h=z91 (world n d) n t0 t1 t2 h:=
 Eq.trans (b:=fn3 Dv (Di .i64) Ds (z91 (world n d) n) [t0,.int .i64 t1,zc t2] h) (by kernel_rfl) (z253 Dv (Di .i64) Ds _ t0 t1 t2 h)
theorem z2aa(n d:Nat)(t0:AV)(t1:Int)(h:AHeap):world n (d+1) 34 [t0,.int .i64 t1] h=zc3 (world n d) n t0 t1 h:=
 Eq.trans (b:=fn2 Dv (Di .i64) (zc3 (world n d) n) [t0,.int .i64 t1] h) (by kernel_rfl) (z86 Dv (Di .i64) _ t0 t1 h)
theorem z2c7(n d:Nat)(t0:AV)(t1:Int)(t2:Int)(h:AHeap):world n (d+1) 33 [t0,.int .i64 t1,.int .i64 t2] h=ze1 (world n d) n t0 t1 t2 h:=
 Eq.trans (b:=fn3 Dv (Di .i64) (Di .i64) (ze1 (world n d) n) [t0,.int .i64 t1,.int .i64 t2] h) (by kernel_rfl) (z253 Dv (Di .i64) (Di .i64) _ t0 t1 t2 h)
theorem z26f(n d:Nat)(t0:AV)(t1:Int)(h:AHeap):world n (d+1) 22 [t0,.int .i64 t1] h=zaf (world n d) n t0 t1 h:=
 Eq.trans (b:=fn2 Dv (Di .i64) (zaf (world n d) n) [t0,.int .i64 t1] h) (by kernel_rfl) (z86 Dv (Di .i64) _ t0 t1 h)
theorem z310(n d:Nat)(t0:AV)(h:AHeap):world n (d+1) 72 [t0] h=z10e (world n d) n t0 h:=
 Eq.trans (b:=fn1 Dv (z10e (world n d) n) [t0] h) (by kernel_rfl) (z54 Dv _ t0 h)
theorem z2c6(n d:Nat)(t0:AV)(h:AHeap):world n (d+1) 27 [t0] h=ze0 (world n d) n t0 h:=
 Eq.trans (b:=fn1 Dv (ze0 (world n d) n) [t0] h) (by kernel_rfl) (z54 Dv _ t0 h)
theorem z212(n d:Nat)(t0:AV)(t1:Int)(h:AHeap):world n (d+1) 47 [t0,.int .i64 t1] h=z7b (world n d) n t0 t1 h:=
 Eq.trans (b:=fn2 Dv (Di .i64) (z7b (world n d) n) [t0,.int .i64 t1] h) (by kernel_rfl) (z86 Dv (Di .i64) _ t0 t1 h)
theorem z235(n d:Nat)(t0:AV)(t1:Int)(t2:List AV)(h:AHeap):world n (d+1) 48 [t0,.int .i64 t1,.agg t2] h=z90 (world n d) n t0 t1 t2 h:=
 Eq.trans (b:=fn3 Dv (Di .i64) Da (z90 (world n d) n) [t0,.int .i64 t1,.agg t2] h) (by kernel_rfl) (z253 Dv (Di .i64) Da _ t0 t1 t2 h)
theorem z26e(n d:Nat)(t0:AV)(t1:AV)(h:AHeap):world n (d+1) 56 [t0,t1] h=zae (world n d) n t0 t1 h:=
 Eq.trans (b:=fn2 Dv Dv (zae (world n d) n) [t0,t1] h) (by kernel_rfl) (z86 Dv Dv _ t0 t1 h)
theorem z2a9(n d:Nat)(t0:AV)(h:AHeap):world n (d+1) 57 [t0] h=zc2 (world n d) n t0 h:=
 Eq.trans (b:=fn1 Dv (zc2 (world n d) n) [t0] h) (by kernel_rfl) (z54 Dv _ t0 h)
theorem z358(n d:Nat)(t0:Int)(h:AHeap):world n (d+1) 52 [.int .i64 t0] h=gcR h (z103 (world n d) n t0 h):=
 Eq.trans (b:=gcR h (fn1 (Di .i64) (z103 (world n d) n) [.int .i64 t0] h)) (by kernel_rfl) (congrArg (gcR h) (z54 (Di .i64) _ t0 h))
theorem z2ac(n d:Nat)(t0:AV)(t1:Int)(h:AHeap):world n (d+1) 31 [t0,.int .i64 t1] h=zc5 (world n d) n t0 t1 h:=
 Eq.trans (b:=fn2 Dv (Di .i64) (zc5 (world n d) n) [t0,.int .i64 t1] h) (by kernel_rfl) (z86 Dv (Di .i64) _ t0 t1 h)
theorem z2ab(n d:Nat)(t0:AV)(t1:Int)(h:AHeap):world n (d+1) 26 [t0,.int .i64 t1] h=zc4 (world n d) n t0 t1 h:=
 Eq.trans (b:=fn2 Dv (Di .i64) (zc4 (world n d) n) [t0,.int .i64 t1] h) (by kernel_rfl) (z86 Dv (Di .i64) _ t0 t1 h)
theorem z270(n d:Nat)(t0:AV)(t1:Int)(h:AHeap):world n (d+1) 28 [t0,.int .i64 t1] h=zb0 (world n d) n t0 t1 h:=
 Eq.trans (b:=fn2 Dv (Di .i64) (zb0 (world n d) n) [t0,.int .i64 t1] h) (by kernel_rfl) (z86 Dv (Di .i64) _ t0 t1 h)
theorem z271(n d:Nat)(t0:AV)(t1:AV)(t2:Int)(h:AHeap):world n (d+1) 13 [t0,t1,.int .i64 t2] h=zb1 (world n d) n t0 t1 t2 h:=
 Eq.trans (b:=fn3 Dv Dv (Di .i64) (zb1 (world n d) n) [t0,t1,.int .i64 t2] h) (by kernel_rfl) (z253 Dv Dv (Di .i64) _ t0 t1 t2 h)
theorem z26d(n d:Nat)(t0:AV)(t1:Int)(t2:Int)(h:AHeap):world n (d+1) 38 [t0,.int .i64 t1,.int .i64 t2] h=zad (world n d) n t0 t1 t2 h:=
 Eq.trans (b:=fn3 Dv (Di .i64) (Di .i64) (zad (world n d) n) [t0,.int .i64 t1,.int .i64 t2] h) (by kernel_rfl) (z253 Dv (Di .i64) (Di .i64) _ t0 t1 t2 h)
theorem z211(n d:Nat)(t0:AV)(h:AHeap):world n (d+1) 61 [t0] h=z7a (world n d) n t0 h:=
 Eq.trans (b:=fn1 Dv (z7a (world n d) n) [t0] h) (by kernel_rfl) (z54 Dv _ t0 h)
theorem z162(n d:Nat)(t0:AV)(h:AHeap):world n (d+1) 83 [t0] h=z3e (world n d) n t0 h:=
 Eq.trans (b:=fn1 Dv (z3e (world n d) n) [t0] h) (by kernel_rfl) (z54 Dv _ t0 h)
theorem z486(n d:Nat)(t0:Int)(t1:Bytes)(h:AHeap):world n (d+1) 94 [.int .u32 t0,zc t1] h=gcR h (z1e4 (world n d) n t0 t1 h):=
 Eq.trans (b:=gcR h (fn2 (Di .u32) Ds (z1e4 (world n d) n) [.int .u32 t0,zc t1] h)) (by kernel_rfl) (congrArg (gcR h) (z86 (Di .u32) Ds _ t0 t1 h))
theorem w_sum_Of(n d:Nat)(t0:Bytes)(h:AHeap):world n (d+1) 92 [zc t0] h=gcR h (z325 (world n d) n t0 h):=
 Eq.trans (b:=gcR h (fn1 Ds (z325 (world n d) n) [zc t0] h)) (by kernel_rfl) (congrArg (gcR h) (z54 Ds _ t0 h))
theorem z30f(n d:Nat)(t0:Bytes)(h:AHeap):world n (d+1) 81 [zc t0] h=gcR h (z10d (world n d) n t0 h):=
 Eq.trans (b:=gcR h (fn1 Ds (z10d (world n d) n) [zc t0] h)) (by kernel_rfl) (congrArg (gcR h) (z54 Ds _ t0 h))
theorem z357(n d:Nat)(t0:Bytes)(h:AHeap):world n (d+1) 86 [zc t0] h=gcR h (z133 (world n d) n t0 h):=
 Eq.trans (b:=gcR h (fn1 Ds (z133 (world n d) n) [zc t0] h)) (by kernel_rfl) (congrArg (gcR h) (z54 Ds _ t0 h))
theorem z407(n d:Nat)(t0:Bytes)(h:AHeap):world n (d+1) 60 [zc t0] h=gcR h (z19d (world n d) n t0 h):=
 Eq.trans (b:=gcR h (fn1 Ds (z19d (world n d) n) [zc t0] h)) (by kernel_rfl) (congrArg (gcR h) (z54 Ds _ t0 h))
theorem z3a6(n d:Nat)(t0:Bytes)(h:AHeap):world n (d+1) 74 [zc t0] h=gcR h (z15f (world n d) n t0 h):=
 Eq.trans (b:=gcR h (fn1 Ds (z15f (world n d) n) [zc t0] h)) (by kernel_rfl) (congrArg (gcR h) (z54 Ds _ t0 h))
theorem z408(n d:Nat)(t0:Bytes)(h:AHeap):world n (d+1) 54 [zc t0] h=z19e (world n d) n t0 h:=
 Eq.trans (b:=fn1 Ds (z19e (world n d) n) [zc t0] h) (by kernel_rfl) (z54 Ds _ t0 h)
theorem z484(n d:Nat)(t0:Int)(h:AHeap):world n (d+1) 82 [.int .u32 t0] h=gcR h (z1e1 (world n d) n t0 h):=
 Eq.trans (b:=gcR h (fn1 (Di .u32) (z1e1 (world n d) n) [.int .u32 t0] h)) (by kernel_rfl) (congrArg (gcR h) (z54 (Di .u32) _ t0 h))
theorem z483(n d:Nat)(t0:Int)(h:AHeap):world n (d+1) 58 [.int .u64 t0] h=gcR h (z1e0 (world n d) n t0 h):=
 Eq.trans (b:=gcR h (fn1 (Di .u64) (z1e0 (world n d) n) [.int .u64 t0] h)) (by kernel_rfl) (congrArg (gcR h) (z54 (Di .u64) _ t0 h))
theorem z485(n d:Nat)(t0:Bytes)(h:AHeap):world n (d+1) 75 [zc t0] h=gcR h (z1e2 (world n d) n t0 h):=
 Eq.trans (b:=gcR h (fn1 Ds (z1e2 (world n d) n) [zc t0] h)) (by kernel_rfl) (congrArg (gcR h) (z54 Ds _ t0 h))
theorem z353(n d:Nat)(t0:Int)(t1:Int)(h:AHeap):world n (d+1) 79 [.int .u64 t0,.int .i64 t1] h=gcR h (z129 (world n d) n t0 t1 h):=
 Eq.trans (b:=gcR h (fn2 (Di .u64) (Di .i64) (z129 (world n d) n) [.int .u64 t0,.int .i64 t1] h)) (by kernel_rfl) (congrArg (gcR h) (z86 (Di .u64) (Di .i64) _ t0 t1 h))
theorem z354(n d:Nat)(t0:Bytes)(h:AHeap):world n (d+1) 80 [zc t0] h=gcR h (z12a (world n d) n t0 h):=
 Eq.trans (b:=gcR h (fn1 Ds (z12a (world n d) n) [zc t0] h)) (by kernel_rfl) (congrArg (gcR h) (z54 Ds _ t0 h))
theorem z403(n d:Nat)(t0:Bytes)(h:AHeap):world n (d+1) 59 [zc t0] h=gcR h (z18f (world n d) n t0 h):=
 Eq.trans (b:=gcR h (fn1 Ds (z18f (world n d) n) [zc t0] h)) (by kernel_rfl) (congrArg (gcR h) (z54 Ds _ t0 h))
theorem z267(n d:Nat)(t0:AV)(h:AHeap):world n (d+1) 85 [t0] h=za1 (world n d) n t0 h:=
 Eq.trans (b:=fn1 Dv (za1 (world n d) n) [t0] h) (by kernel_rfl) (z54 Dv _ t0 h)
theorem z266(n d:Nat)(t0:AV)(h:AHeap):world n (d+1) 76 [t0] h=za0 (world n d) n t0 h:=
 Eq.trans (b:=fn1 Dv (za0 (world n d) n) [t0] h) (by kernel_rfl) (z54 Dv _ t0 h)
theorem z268(n d:Nat)(t0:AV)(h:AHeap):world n (d+1) 78 [t0] h=za2 (world n d) n t0 h:=
 Eq.trans (b:=fn1 Dv (za2 (world n d) n) [t0] h) (by kernel_rfl) (z54 Dv _ t0 h)
theorem z20d(n d:Nat)(t0:AV)(h:AHeap):world n (d+1) 91 [t0] h=z76 (world n d) n t0 h:=
 Eq.trans (b:=fn1 Dv (z76 (world n d) n) [t0] h) (by kernel_rfl) (z54 Dv _ t0 h)
theorem z1f8(n d:Nat)(t0:AV)(t1:Int)(h:AHeap):world n (d+1) 87 [t0,.int .i64 t1] h=z68 (world n d) n t0 t1 h:=
 Eq.trans (b:=fn2 Dv (Di .i64) (z68 (world n d) n) [t0,.int .i64 t1] h) (by kernel_rfl) (z86 Dv (Di .i64) _ t0 t1 h)
theorem z20c(n d:Nat)(t0:AV)(h:AHeap):world n (d+1) 90 [t0] h=z75 (world n d) n t0 h:=
 Eq.trans (b:=fn1 Dv (z75 (world n d) n) [t0] h) (by kernel_rfl) (z54 Dv _ t0 h)
theorem z231(n d:Nat)(t0:AV)(t1:Int)(t2:Int)(h:AHeap):world n (d+1) 89 [t0,.int .i64 t1,.int .i64 t2] h=z8b (world n d) n t0 t1 t2 h:=
 Eq.trans (b:=fn3 Dv (Di .i64) (Di .i64) (z8b (world n d) n) [t0,.int .i64 t1,.int .i64 t2] h) (by kernel_rfl) (z253 Dv (Di .i64) (Di .i64) _ t0 t1 t2 h)
theorem z230(n d:Nat)(t0:AV)(t1:Int)(h:AHeap):world n (d+1) 88 [t0,.int .i64 t1] h=z8a (world n d) n t0 t1 h:=
 Eq.trans (b:=fn2 Dv (Di .i64) (z8a (world n d) n) [t0,.int .i64 t1] h) (by kernel_rfl) (z86 Dv (Di .i64) _ t0 t1 h)
theorem z232(n d:Nat)(t0:AV)(t1:Int)(h:AHeap):world n (d+1) 77 [t0,.int .i64 t1] h=z8c (world n d) n t0 t1 h:=
 Eq.trans (b:=fn2 Dv (Di .i64) (z8c (world n d) n) [t0,.int .i64 t1] h) (by kernel_rfl) (z86 Dv (Di .i64) _ t0 t1 h)
theorem z2c5(n d:Nat)(t0:List AV)(h:AHeap):world n (d+1) 16 [.agg t0] h=gcR h (zdf (world n d) n t0 h):=
 Eq.trans (b:=gcR h (fn1 Da (zdf (world n d) n) [.agg t0] h)) (by kernel_rfl) (congrArg (gcR h) (z54 Da _ t0 h))
theorem z26c(n d:Nat)(t0:List AV)(h:AHeap):world n (d+1) 40 [.agg t0] h=gcR h (zab (world n d) n t0 h):=
 Eq.trans (b:=gcR h (fn1 Da (zab (world n d) n) [.agg t0] h)) (by kernel_rfl) (congrArg (gcR h) (z54 Da _ t0 h))
theorem z1c0(n d:Nat)(t0:AV)(t1:Int)(h:AHeap):world n (d+1) 10 [t0,.int .i64 t1] h=z59 (world n d) n t0 t1 h:=
 Eq.trans (b:=fn2 Dv (Di .i64) (z59 (world n d) n) [t0,.int .i64 t1] h) (by kernel_rfl) (z86 Dv (Di .i64) _ t0 t1 h)
theorem z13d(n d:Nat)(t0:AV)(t1:List AV)(h:AHeap):world n (d+1) 11 [t0,.agg t1] h=z50 (world n d) n t0 t1 h:=
 Eq.trans (b:=fn2 Dv Da (z50 (world n d) n) [t0,.agg t1] h) (by kernel_rfl) (z86 Dv Da _ t0 t1 h)
theorem z18a(n d:Nat)(t0:AV)(t1:List AV)(h:AHeap):world n (d+1) 35 [t0,.agg t1] h=z49 (world n d) n t0 t1 h:=
 Eq.trans (b:=fn2 Dv Da (z49 (world n d) n) [t0,.agg t1] h) (by kernel_rfl) (z86 Dv Da _ t0 t1 h)
theorem z1c9(n d:Nat)(t0:AV)(t1:List AV)(h:AHeap):world n (d+1) 37 [t0,.agg t1] h=z62 (world n d) n t0 t1 h:=
 Eq.trans (b:=fn2 Dv Da (z62 (world n d) n) [t0,.agg t1] h) (by kernel_rfl) (z86 Dv Da _ t0 t1 h)
theorem z1ca(n d:Nat)(t0:AV)(h:AHeap):world n (d+1) 39 [t0] h=z80 (world n d) n t0 h:=
 Eq.trans (b:=fn1 Dv (z80 (world n d) n) [t0] h) (by kernel_rfl) (z54 Dv _ t0 h)
theorem z2a8(n d:Nat)(t0:List AV)(h:AHeap):world n (d+1) 36 [.agg t0] h=gcR h (zc1 (world n d) n t0 h):=
 Eq.trans (b:=gcR h (fn1 Da (zc1 (world n d) n) [.agg t0] h)) (by kernel_rfl) (congrArg (gcR h) (z54 Da _ t0 h))
theorem z2a7(n d:Nat)(t0:Bytes)(h:AHeap):world n (d+1) 55 [zc t0] h=gcR h (zc0 (world n d) n t0 h):=
 Eq.trans (b:=gcR h (fn1 Ds (zc0 (world n d) n) [zc t0] h)) (by kernel_rfl) (congrArg (gcR h) (z54 Ds _ t0 h))
theorem z2c4(n d:Nat)(t0:List AV)(t1:List AV)(h:AHeap):world n (d+1) 53 [.agg t0,.agg t1] h=gcR h (zdc (world n d) n t0 t1 h):=
 Eq.trans (b:=gcR h (fn2 Da Da (zdc (world n d) n) [.agg t0,.agg t1] h)) (by kernel_rfl) (congrArg (gcR h) (z86 Da Da _ t0 t1 h))
theorem z405(n d:Nat)(h:AHeap):world n (d+1) 19 [] h=gcR h (z16b (world n d) n h):=
 Eq.trans (b:=gcR h (fn0 (z16b (world n d) n) [] h)) (by kernel_rfl) (congrArg (gcR h) (fn0_eq _ h))
theorem z20f(n d:Nat)(t0:AV)(t1:Int)(t2:List AV)(h:AHeap):world n (d+1) 24 [t0,.int .i64 t1,.agg t2] h=z78 (world n d) n t0 t1 t2 h:=
 Eq.trans (b:=fn3 Dv (Di .i64) Da (z78 (world n d) n) [t0,.int .i64 t1,.agg t2] h) (by kernel_rfl) (z253 Dv (Di .i64) Da _ t0 t1 t2 h)
theorem z26a(n d:Nat)(t0:AV)(t1:Int)(h:AHeap):world n (d+1) 45 [t0,.int .i64 t1] h=za4 (world n d) n t0 t1 h:=
 Eq.trans (b:=fn2 Dv (Di .i64) (za4 (world n d) n) [t0,.int .i64 t1] h) (by kernel_rfl) (z86 Dv (Di .i64) _ t0 t1 h)
theorem z233(n d:Nat)(t0:AV)(t1:AV)(t2:Int)(h:AHeap):world n (d+1) 25 [t0,t1,.int .i64 t2] h=z8d (world n d) n t0 t1 t2 h:=
 Eq.trans (b:=fn3 Dv Dv (Di .i64) (z8d (world n d) n) [t0,t1,.int .i64 t2] h) (by kernel_rfl) (z253 Dv Dv (Di .i64) _ t0 t1 t2 h)
theorem z26b(n d:Nat)(t0:AV)(t1:Int)(h:AHeap):world n (d+1) 41 [t0,.int .i64 t1] h=za5 (world n d) n t0 t1 h:=
 Eq.trans (b:=fn2 Dv (Di .i64) (za5 (world n d) n) [t0,.int .i64 t1] h) (by kernel_rfl) (z86 Dv (Di .i64) _ t0 t1 h)
theorem z2a6(n d:Nat)(t0:AV)(t1:Int)(h:AHeap):world n (d+1) 49 [t0,.int .i64 t1] h=zbe (world n d) n t0 t1 h:=
 Eq.trans (b:=fn2 Dv (Di .i64) (zbe (world n d) n) [t0,.int .i64 t1] h) (by kernel_rfl) (z86 Dv (Di .i64) _ t0 t1 h)
theorem z269(n d:Nat)(t0:AV)(t1:Int)(t2:Int)(h:AHeap):world n (d+1) 50 [t0,.int .i64 t1,.int .i64 t2] h=za3 (world n d) n t0 t1 t2 h:=
 Eq.trans (b:=fn3 Dv (Di .i64) (Di .i64) (za3 (world n d) n) [t0,.int .i64 t1,.int .i64 t2] h) (by kernel_rfl) (z253 Dv (Di .i64) (Di .i64) _ t0 t1 t2 h)
theorem z39f(n d:Nat)(t0:List AV)(h:AHeap):world n (d+1) 68 [.agg t0] h=gcR h (z12d (world n d) n t0 h):=
 Eq.trans (b:=gcR h (fn1 Da (z12d (world n d) n) [.agg t0] h)) (by kernel_rfl) (congrArg (gcR h) (z54 Da _ t0 h))
theorem z3a0(n d:Nat)(t0:List AV)(t1:List AV)(h:AHeap):world n (d+1) 51 [.agg t0,.agg t1] h=gcR h (z12e (world n d) n t0 t1 h):=
 Eq.trans (b:=gcR h (fn2 Da Da (z12e (world n d) n) [.agg t0,.agg t1] h)) (by kernel_rfl) (congrArg (gcR h) (z86 Da Da _ t0 t1 h))
theorem z3a2(n d:Nat)(t0:Bytes)(h:AHeap):world n (d+1) 42 [zc t0] h=z159 (world n d) n t0 h:=
 Eq.trans (b:=fn1 Ds (z159 (world n d) n) [zc t0] h) (by kernel_rfl) (z54 Ds _ t0 h)
theorem z3a1(n d:Nat)(t0:Bytes)(h:AHeap):world n (d+1) 63 [zc t0] h=gcR h (z158 (world n d) n t0 h):=
 Eq.trans (b:=gcR h (fn1 Ds (z158 (world n d) n) [zc t0] h)) (by kernel_rfl) (congrArg (gcR h) (z54 Ds _ t0 h))
theorem z406(n d:Nat)(t0:Bytes)(h:AHeap):world n (d+1) 69 [zc t0] h=gcR h (z197 (world n d) n t0 h):=
 Eq.trans (b:=gcR h (fn1 Ds (z197 (world n d) n) [zc t0] h)) (by kernel_rfl) (congrArg (gcR h) (z54 Ds _ t0 h))
theorem z30e(n d:Nat)(t0:Int)(t1:Int)(h:AHeap):world n (d+1) 70 [.int .u64 t0,.int .i64 t1] h=gcR h (z109 (world n d) n t0 t1 h):=
 Eq.trans (b:=gcR h (fn2 (Di .u64) (Di .i64) (z109 (world n d) n) [.int .u64 t0,.int .i64 t1] h)) (by kernel_rfl) (congrArg (gcR h) (z86 (Di .u64) (Di .i64) _ t0 t1 h))
theorem z3a5(n d:Nat)(t0:Bytes)(h:AHeap):world n (d+1) 71 [zc t0] h=gcR h (z15c (world n d) n t0 h):=
 Eq.trans (b:=gcR h (fn1 Ds (z15c (world n d) n) [zc t0] h)) (by kernel_rfl) (congrArg (gcR h) (z54 Ds _ t0 h))
theorem z1c8(n d:Nat)(t0:AV)(t1:Int)(h:AHeap):world n (d+1) 65 [t0,.int .i64 t1] h=z61 (world n d) n t0 t1 h:=
 Eq.trans (b:=fn2 Dv (Di .i64) (z61 (world n d) n) [t0,.int .i64 t1] h) (by kernel_rfl) (z86 Dv (Di .i64) _ t0 t1 h)
theorem z210(n d:Nat)(t0:AV)(t1:Int)(h:AHeap):world n (d+1) 66 [t0,.int .i64 t1] h=z79 (world n d) n t0 t1 h:=
 Eq.trans (b:=fn2 Dv (Di .i64) (z79 (world n d) n) [t0,.int .i64 t1] h) (by kernel_rfl) (z86 Dv (Di .i64) _ t0 t1 h)
theorem z234(n d:Nat)(t0:AV)(h:AHeap):world n (d+1) 67 [t0] h=z8e (world n d) n t0 h:=
 Eq.trans (b:=fn1 Dv (z8e (world n d) n) [t0] h) (by kernel_rfl) (z54 Dv _ t0 h)
theorem z487(n d:Nat)(t0:Bytes)(h:AHeap):world n (d+1) 84 [zc t0] h=gcR h (z1e6 (world n d) n t0 h):=
 Eq.trans (b:=gcR h (fn1 Ds (z1e6 (world n d) n) [zc t0] h)) (by kernel_rfl) (congrArg (gcR h) (z54 Ds _ t0 h))
theorem z3a4(n d:Nat)(t0:Int)(t1:Bytes)(h:AHeap):world n (d+1) 93 [.int .u32 t0,zc t1] h=gcR h (z15b (world n d) n t0 t1 h):=
 Eq.trans (b:=gcR h (fn2 (Di .u32) Ds (z15b (world n d) n) [.int .u32 t0,zc t1] h)) (by kernel_rfl) (congrArg (gcR h) (z86 (Di .u32) Ds _ t0 t1 h))
theorem z3a3(n d:Nat)(t0:Int)(t1:Int)(h:AHeap):world n (d+1) 95 [.int .u32 t0,.int .u32 t1] h=gcR h (z15a (world n d) n t0 t1 h):=
 Eq.trans (b:=gcR h (fn2 (Di .u32) (Di .u32) (z15a (world n d) n) [.int .u32 t0,.int .u32 t1] h)) (by kernel_rfl) (congrArg (gcR h) (z86 (Di .u32) (Di .u32) _ t0 t1 h))
theorem z356(n d:Nat)(t0:List AV)(h:AHeap):world n (d+1) 17 [.agg t0] h=gcR h (z12c (world n d) n t0 h):=
 Eq.trans (b:=gcR h (fn1 Da (z12c (world n d) n) [.agg t0] h)) (by kernel_rfl) (congrArg (gcR h) (z54 Da _ t0 h))
theorem z355(n d:Nat)(t0:List AV)(h:AHeap):world n (d+1) 46 [.agg t0] h=gcR h (z12b (world n d) n t0 h):=
 Eq.trans (b:=gcR h (fn1 Da (z12b (world n d) n) [.agg t0] h)) (by kernel_rfl) (congrArg (gcR h) (z54 Da _ t0 h))
theorem z30d(n d:Nat)(t0:Int)(h:AHeap):world n (d+1) 64 [.int .u64 t0] h=gcR h (z107 (world n d) n t0 h):=
 Eq.trans (b:=gcR h (fn1 (Di .u64) (z107 (world n d) n) [.int .u64 t0] h)) (by kernel_rfl) (congrArg (gcR h) (z54 (Di .u64) _ t0 h))
theorem z39c(n d:Nat)(t0:Bytes)(h:AHeap):world n (d+1) 43 [zc t0] h=gcR h (z155 (world n d) n t0 h):=
 Eq.trans (b:=gcR h (fn1 Ds (z155 (world n d) n) [zc t0] h)) (by kernel_rfl) (congrArg (gcR h) (z54 Ds _ t0 h))
theorem z39e(n d:Nat)(t0:AV)(t1:Int)(h:AHeap):world n (d+1) 29 [t0,.int .i64 t1] h=z157 (world n d) n t0 t1 h:=
 Eq.trans (b:=fn2 Dv (Di .i64) (z157 (world n d) n) [t0,.int .i64 t1] h) (by kernel_rfl) (z86 Dv (Di .i64) _ t0 t1 h)
theorem z404(n d:Nat)(t0:AV)(t1:List AV)(h:AHeap):world n (d+1) 44 [t0,.agg t1] h=z196 (world n d) n t0 t1 h:=
 Eq.trans (b:=fn2 Dv Da (z196 (world n d) n) [t0,.agg t1] h) (by kernel_rfl) (z86 Dv Da _ t0 t1 h)
theorem z39d(n d:Nat)(t0:AV)(h:AHeap):world n (d+1) 20 [t0] h=z156 (world n d) n t0 h:=
 Eq.trans (b:=fn1 Dv (z156 (world n d) n) [t0] h) (by kernel_rfl) (z54 Dv _ t0 h)
theorem z20e(n d:Nat)(t0:AV)(t1:List AV)(h:AHeap):world n (d+1) 21 [t0,.agg t1] h=z77 (world n d) n t0 t1 h:=
 Eq.trans (b:=fn2 Dv Da (z77 (world n d) n) [t0,.agg t1] h) (by kernel_rfl) (z86 Dv Da _ t0 t1 h)
abbrev TBy:Nat:=37
abbrev TChg:Nat:=114
abbrev z296:Nat:=79
abbrev z306:Nat:=84
structure Cont where
 th:Bool
 u:Bytes
structure Chg where
 k:Nat
 s:Bytes
 n:Int
noncomputable def z399(c:Chg):List AV:=[.int .i64 (c.k:Int),zc c.s,.int .i64 c.n]
def do1(x:Cont)(c:Chg):Cont:=if c.k=0 then ⟨true,x.u++c.s⟩ else if c.k=1 then ⟨x.th,x.u.take c.n.toNat⟩ else ⟨false,[]⟩
def doL(x:Cont)(l:List Chg):Cont:=l.foldl do1 x
def z3d3(x:Cont)(c:Chg):Prop:=c.k=0∨(c.k=1∧0≤c.n∧c.n≤(x.u.length:Int))∨c.k=2
def z322:Cont→List Chg→Prop
 |_,[]=>True
 |x,c::l=>z3d3 x c∧z322 (do1 x c) l
def z2cc:List Chg→Nat
 |[]=>0
 |c::l=>c.s.length+z2cc l
theorem z435(x:Cont)(c:Chg):(do1 x c).u.length≤x.u.length+c.s.length:=by
 unfold do1
 split
 ·rw [List.length_append]
  exact Nat.le_refl _
 ·split
  ·rw [List.length_take]
   omega
  ·exact Nat.zero_le _
theorem z134:∀(l:List Chg) (x:Cont),(doL x l).u.length≤x.u.length+z2cc l
 |[],_=>Nat.le_refl _
 |c::l,x=>by
  have h1:=z435 x c;have h2:=z134 l (do1 x c);show (doL (do1 x c) l).u.length≤x.u.length+(c.s.length+z2cc l);omega
theorem z477(x:Cont)(l:List Chg)(c:Chg):doL x (l++[c])=do1 (doL x l) c:=by
 unfold doL;rw[List.foldl_append];rfl
theorem z352:∀(l:List Chg) (x:Cont) (c:Chg),z322 x l→z3d3 (doL x l) c→z322 x (l++[c])
 |[],_,_,_,h=>⟨h,trivial⟩
 |a::l,x,c,h1,h2=>⟨h1.1,z352 l (do1 x a) c h1.2 h2⟩
theorem z3ad:∀(l:List Chg) (c:Chg),z2cc (l++[c])=z2cc l+c.s.length
 |[],c=>by
  show c.s.length+0=0+c.s.length;omega
 |a::l,c=>by
  have:=z3ad l c;show a.s.length+z2cc (l++[c])=a.s.length+z2cc l+c.s.length;omega
theorem y9{α:Type}{a:α}{K:α→R}{Q:ARes→AHeap→Prop}(hk:∀x,x=a→Wp (K x) Q):Wp (Abs.lett a K) Q:=hk a rfl
def z43:AV→List Nat
 | .sl c _ _ _=>[c]
 |_=>[]
theorem z44c{P:Program}{h:AHeap}{t e:TypeId}{b m sz k:Nat}{k1:IntKind}(he:Abs.elemOf P t=some e)(hi:(P.info? e).isSome=true)(hsz:P.cellsOf e=sz)(h1:k≤m):
  z113 P h t (.sl b 0 m sz) none (some (.int k1 (k:Int)))=some (.val (.sl b 0 k sz),h):=by
 have b1:zce (some (AV.int k1 (k:Int))) m=some k:=rfl;have b2:zce none 0=some 0:=rfl;simp only[z113,z23a,b1,b2,he];rw[if_pos ⟨Nat.ble_eq_true_of_le (Nat.zero_le k),Nat.ble_eq_true_of_le h1,hsz.symm,hi⟩,if_neg (fun hc=>by have:=Nat.le_of_ble_eq_true hc.2;omega),Nat.zero_mul,Nat.add_zero,Nat.sub_zero]
theorem fitBy:fitB Try.prog 5 1=true:=by kernel_rfl
def BufAt(h:AHeap)(v:AV)(u:Bytes):Prop:=(v=.nsl∧u=[])∨∃c rest,v=.sl c 0 u.length 1∧RowH h c 5 (z4b u++rest)∧c<h.next
section
variable {h h':AHeap}{v:AV}{u:Bytes}
theorem BufAt.tch{S:List Nat}(k:BufAt h v u)(t:Tch S h h')(hd:∀b∈z43 v,b ∉ S):BufAt h' v u:=by
 rcases k with k|⟨c,rest,rfl,h2,h3⟩
 ·exact .inl k
 ·exact .inr ⟨c,rest,rfl,h2.tch t h3 (hd c (List.mem_singleton.2 rfl)),Nat.lt_of_lt_of_le h3 t.1⟩
theorem BufAt.lt(k:BufAt h v u):∀b∈z43 v,b<h.next:=by
 rcases k with⟨rfl,_⟩|⟨c,rest,rfl,_,h3⟩
 ·exact fun b hb=>nomatch hb
 ·intro b hb
  rw[List.mem_singleton.1 hb];exact h3
theorem BufAt.len(k:BufAt h v u):z18e v=some (u.length:Int):=by
 rcases k with⟨rfl,rfl⟩|⟨c,rest,rfl,_⟩<;>rfl
theorem BufAt.one(k:BufAt h v u):v.one=true∧AV.cells v=[v]:=by
 rcases k with⟨rfl,rfl⟩|⟨c,rest,rfl,_⟩<;>exact⟨rfl,rfl⟩
theorem BufAt.app(k:BufAt h v u)(s:Bytes)(hx:h.ex=[])(hm:u.length+s.length≤1000000000):
  ∃v' h',z34 Try.prog h TBy 9 v (zc s)=some (.val v',h')∧BufAt h' v' (u++s)∧Tch (z43 v) h h'∧∀b∈z43 v',b∈z43 v∨h.next≤b:=by
 have he:Abs.elemOf Try.prog TBy=some 5:=by kernel_rfl
 have hu:z128 Try.prog 9=true:=by kernel_rfl
 have hsz:Try.prog.cellsOf 5=1:=by kernel_rfl
 have hex:z11c 5 h.ex=false:=by rw[hx];rfl
 by_cases h0:s=[]
 ·subst h0
  have hfit2:=z4c (P:=Try.prog) (e:=5) (B:=1) (k:=u.length+0) fitBy (by omega) (by omega);rw[List.append_nil];refine⟨v,h,?_,k,Tch.refl _ _,fun b hb=>.inl hb⟩
  rcases k with⟨rfl,rfl⟩|⟨c,rest,rfl,_⟩
  ·have hl : z282 .nsl = some 0 := rfl
   have hx0:z282 (zc [])=some 0:=rfl;have hf:z124 h 1 0 (zc [])=some []:=z28c [];unfold z128 at hu;unfold z34
   split at hu
   ·cases hu
   ·rename_i ud hni heq
    have hfit3:zcd Try.prog 5 (0+0)=true:=hfit2;simp only[he,hl,hx0,heq,hsz,hf,hfit3,hex,List.all_nil,and_self,if_true];rfl
   ·cases hu
  ·exact z302 he hu hsz rfl rfl (z28c []) hfit2 hex
 ·obtain ⟨m, hm2⟩ : ∃ m, s.length = m + 1 := by
   cases s with
   |nil=>exact absurd rfl h0
   |cons a l=>exact⟨l.length,rfl⟩
  have hf:z124 h 1 (m+1) (zc s)=some (z4b s):=by
   rw[←hm2];exact z28c s
  have hl:z282 (zc s)=some (m+1):=by
   rw[←hm2];rfl
  rcases k with⟨rfl,rfl⟩|⟨c,rest,rfl,h2,h3⟩
  ·have a1 := z137 (P := Try.prog) (h := h) (t := TBy) (u := 9) he hu hsz hl hf (z4c fitBy (by omega) (by omega)) (z1f2 s) hex
   refine⟨_,_,a1,.inr ⟨h.next,[],by rw[List.nil_append,hm2],?_,Nat.lt_succ_self _⟩,Tch.newH _ _ _ _,fun b hb=>.inr (by rw[List.mem_singleton.1 hb];exact Nat.le_refl _)⟩;rw[List.nil_append,List.append_nil];exact RowH.new _ _ _
  ·have hcl := zb7 u
   have a1:=z138 (P:=Try.prog) (h:=h) (t:=TBy) (u:=9) (b:=c) (o:=0) (m:=u.length) (cs:=z4b u) he hu hsz hl hf (z4c fitBy (by omega) (by omega)) (z1f2 s) hex (by
    have:=h2.part (o:=0) (n:=(z4b u).length) (by rw[List.length_append];omega);rw[List.drop_zero,List.take_left' rfl] at this;rw[Nat.mul_one, ←hcl];exact this) h2.type
   refine⟨_,_,a1,.inr ⟨h.next,[],by rw[List.length_append,hm2],?_,Nat.lt_succ_self _⟩,(Tch.put (S:=[c]) (.inl (List.mem_singleton.2 rfl)) _).trans (Tch.newH _ _ _ _),fun b hb=>.inr (by rw[List.mem_singleton.1 hb];exact Nat.le_refl _)⟩;rw[z25f,List.append_nil];exact RowH.new (h.put c .dead) _ _
theorem BufAt.cut(k:BufAt h v u){n:Int}(h0:0≤n)(h1:n≤(u.length:Int)):∃v',z113 Try.prog h TBy v none (some (.int .i64 n))=some (.val v',h)∧BufAt h v' (u.take n.toNat)∧z43 v'=z43 v:=by
 obtain⟨j,rfl⟩:∃j:Nat,n=(j:Int):=⟨n.toNat,by omega⟩;rw[Int.toNat_natCast];have hj:j≤u.length:=by omega
 rcases k with⟨rfl,rfl⟩|⟨c,rest,rfl,h2,h3⟩
 ·have hj0 : j = 0 := by
   rw[List.length_nil] at hj;omega
  subst hj0;exact⟨.nsl,by kernel_rfl,.inl ⟨rfl,rfl⟩,rfl⟩
 ·have hl : (u.take j).length = j := by rw [List.length_take]; omega
  refine⟨.sl c 0 j 1,z44c (P:=Try.prog) (e:=5) (k1:=.i64) (by kernel_rfl) (by kernel_rfl) (by kernel_rfl) hj,.inr ⟨c,z4b (u.drop j)++rest,by rw[hl],?_,h3⟩,rfl⟩;rw[←List.append_assoc, ←z25f,List.take_append_drop];exact h2
end
def RdL(h:AHeap)(S:List Nat)(lv:AV)(l:List Chg):Prop:=z18e lv=some (l.length:Int)∧∀H,Tch S h H→∀(i:Nat) (hi:i<l.length),∃p,z17a 3 lv (i:Int)=some p∧z28 H 3 p=some (z399 l[i])
theorem dropC{α:Type}{l:List α}{i:Nat}{a:α}{r:List α}(h:l.drop i=a::r):∃hi:i<l.length,l[i]=a∧l.drop (i+1)=r:=by
 have hi:i<l.length:=by
  apply Nat.lt_of_not_le;intro hh;rw[List.drop_of_length_le hh] at h;cases h
 rw[List.drop_eq_getElem_cons hi] at h
 injection h with h1 h2
 exact⟨hi,h1,h2⟩
theorem dropN{α:Type}{l:List α}{i:Nat}(h:l.drop i=[]):l.length≤i:=by
 apply Nat.le_of_not_lt;intro hh;rw[List.drop_eq_getElem_cons hh] at h;cases h
theorem set4{D:List AV}{o:Nat}{a b c d:AV}:(((D.set o a).set (o+1) b).set o c).set (o+1) d=(D.set o c).set (o+1) d:=by
 rw[List.set_comm b c (show o+1≠o by omega),List.set_set,List.set_set]
theorem set3{D:List AV}{o:Nat}{a b d:AV}:((D.set o a).set (o+1) b).set (o+1) d=(D.set o a).set (o+1) d:=List.set_set ..
theorem laid2{l:List AV}{o:Nat}{a b:AV}(h:o+1<l.length):z3fc l o [a,b]=(l.set o a).set (o+1) b:=by
 refine List.ext_getElem? fun i=>?_;rw[z1b0 (by show o+2≤_;omega)]
 by_cases h1:i=o
 ·subst h1
  rw[if_pos ⟨Nat.le_refl _,by show i<i+2;omega⟩,Nat.sub_self,List.getElem?_set_ne (by omega),List.getElem?_set_self (by omega)];rfl
 ·by_cases h2 : i = o + 1
  ·subst h2
   rw[if_pos ⟨by omega,by show o+1<o+2;omega⟩,show o+1 - o=1 by omega,List.getElem?_set_self (by rw[List.length_set];omega)];rfl
  ·rw[if_neg (fun hh=>by have:i<o+2:=hh.2;omega),List.getElem?_set_ne (by omega),List.getElem?_set_ne (by omega)]
structure DoAt (h H:AHeap) (db T o:Nat) (D:List AV) (v v':AV) (x:Cont):Prop where
 row:RowH H db T ((D.set o (.bool x.th)).set (o+1) v')
 buf:BufAt H v' x.u
 ndb:db ∉ z43 v'
 sub:∀b∈z43 v',b∈z43 v∨h.next≤b
 tch:Tch (db::z43 v) h H
 ex:H.ex=[]
section
variable {n d db T o:Nat}{h:AHeap}{D:List AV}{v lv:AV}{l:List Chg}{Q:ARes→AHeap→Prop}{k4:AHeap→R}
theorem do_loop(hdb:db<h.next)(ho:o+1<D.length)(rd:RdL h (db::z43 v) lv l)(hl:l.length<1000000):
  ∀(todo:List Chg) (i fu:Nat) (x:Cont) (v':AV) (H:AHeap),l.drop i=todo→todo.length<fu→DoAt h H db T o D v v' x→z322 x todo→x.u.length+z2cc todo≤100000000→
   (∀H' v'',DoAt h H' db T o D v v'' (doL x todo)→Wp (k4 H') Q)→Wp (z99 (.ptr db o) lv (l.length:Int) k4 fu (i:Int) H) Q
 |_,_,0,_,_,_,_,hf,_,_,_,_=>by omega
 |[],i,fu+1,x,v',H,hd,hf,K,_,_,hk=>by
  have:=dropN hd;rw[ze5];unfold z81
  (first|(with_reducible first|refine y2a (fun _ _=>?_)|refine y16 (fun _ _=>?_)|refine Wp.join2 (fun _ _=>?_))|((with_reducible first|refine yd ?_ ?_ ?_|refine y13 ?_ ?_ ?_|refine Wp.lettu8 ?_ ?_ ?_|refine y1e ?_ ?_ ?_);omega;omega)|(with_reducible refine Wp.lett ?_)|((with_reducible apply Wp.obind);first|(with_reducible first|exact z5 _ _|exact z13 _|exact z12 _|exact z10 _ _|exact z7 _ _ _|exact z2b _|exact z64 _ _|exact z63 _ _ _|exact z1bc _ _ _ _|assumption)|((with_reducible first|apply y5|apply RowH.ldAll);(with_reducible assumption);rfl))|((with_reducible refine yc ?_ ?_);first|(with_reducible first|rfl|assumption|exact Bool.not_false)|((with_reducible first|apply decide_eq_true|apply not_df|apply zc7|apply zf7);omega))|((with_reducible refine y8 ?_ ?_);first|(with_reducible first|rfl|assumption|exact Bool.not_true)|((with_reducible first|apply decide_eq_false|apply not_dt|apply z9b|apply zc8);omega))|((with_reducible first|apply Wp.callN|apply Wp.callK);(with_reducible assumption))|((with_reducible apply Wp.outK);(with_reducible assumption))|(with_reducible first|refine y34 (by assumption) ?_|refine y22 (by assumption) ?_|refine Wp.go2 (by assumption) ?_)|rw[z2d])
  exact y8 (by rw[decide_eq_false_iff_not];omega) (hk H v' K)
 |c::todo,i,fu+1,x,v',H,hd,hf,K,hL,hb,hk=>by
  obtain⟨hi,hci,hd2⟩:=dropC hd;rw[List.length_cons] at hf;obtain⟨p,i1,r1⟩:=rd.2 H K.tch i hi;rw[hci] at r1;have el:(i:Int)+1=((i+1:Nat):Int):=by omega
  have hs:z2cc (c::todo)=c.s.length+z2cc todo:=rfl;have hlen:o+1<((D.set o (.bool x.th)).set (o+1) v').length:=by rw[List.length_set,List.length_set];exact ho
  have hn0:=K.tch.1;rw[ze5];unfold z81
  (first|(with_reducible first|refine y2a (fun _ _=>?_)|refine y16 (fun _ _=>?_)|refine Wp.join2 (fun _ _=>?_))|((with_reducible first|refine yd ?_ ?_ ?_|refine y13 ?_ ?_ ?_|refine Wp.lettu8 ?_ ?_ ?_|refine y1e ?_ ?_ ?_);omega;omega)|(with_reducible refine Wp.lett ?_)|((with_reducible apply Wp.obind);first|(with_reducible first|exact z5 _ _|exact z13 _|exact z12 _|exact z10 _ _|exact z7 _ _ _|exact z2b _|exact z64 _ _|exact z63 _ _ _|exact z1bc _ _ _ _|assumption)|((with_reducible first|apply y5|apply RowH.ldAll);(with_reducible assumption);rfl))|((with_reducible refine yc ?_ ?_);first|(with_reducible first|rfl|assumption|exact Bool.not_false)|((with_reducible first|apply decide_eq_true|apply not_df|apply zc7|apply zf7);omega))|((with_reducible refine y8 ?_ ?_);first|(with_reducible first|rfl|assumption|exact Bool.not_true)|((with_reducible first|apply decide_eq_false|apply not_dt|apply z9b|apply zc8);omega))|((with_reducible first|apply Wp.callN|apply Wp.callK);(with_reducible assumption))|((with_reducible apply Wp.outK);(with_reducible assumption))|(with_reducible first|refine y34 (by assumption) ?_|refine y22 (by assumption) ?_|refine Wp.go2 (by assumption) ?_)|rw[z2d])
  refine yc (by rw[decide_eq_true_eq];omega) (Wp.obind i1 (Wp.obind r1 (y12 (Mem.nil [] H) fun h2 M2=>?_)));rw[z2d];refine y1a M2 rfl rfl rfl fun h3 M3=>?_;have t3:=M3.tch;have hn3:=t3.1;have hx3:h3.ex=[]:=by rw[M3.ex,K.ex]
  have kr:=K.row.tch t3 (Nat.lt_of_lt_of_le hdb K.tch.1) (by simp);have kb:=K.buf.tch t3 (fun _ _=>by simp);have hne:H.next≠db:=by omega
  refine Wp.obind (y5 M3.at0.1 (show (z399 c)[0]? =some (.int .i64 (c.k:Int)) from rfl)) (Wp.obind (z5 _ _) (Wp.lett (y9 fun k26 ek=>?_)))
  have next:∀(H':AHeap) (v'':AV),DoAt h H' db T o D v v'' (do1 x c)→Wp (k26 H') Q:=by
   intro H' v'' K';rw[ek]
   (first|(with_reducible first|refine y2a (fun _ _=>?_)|refine y16 (fun _ _=>?_)|refine Wp.join2 (fun _ _=>?_))|((with_reducible first|refine yd ?_ ?_ ?_|refine y13 ?_ ?_ ?_|refine Wp.lettu8 ?_ ?_ ?_|refine y1e ?_ ?_ ?_);omega;omega)|(with_reducible refine Wp.lett ?_)|((with_reducible apply Wp.obind);first|(with_reducible first|exact z5 _ _|exact z13 _|exact z12 _|exact z10 _ _|exact z7 _ _ _|exact z2b _|exact z64 _ _|exact z63 _ _ _|exact z1bc _ _ _ _|assumption)|((with_reducible first|apply y5|apply RowH.ldAll);(with_reducible assumption);rfl))|((with_reducible refine yc ?_ ?_);first|(with_reducible first|rfl|assumption|exact Bool.not_false)|((with_reducible first|apply decide_eq_true|apply not_df|apply zc7|apply zf7);omega))|((with_reducible refine y8 ?_ ?_);first|(with_reducible first|rfl|assumption|exact Bool.not_true)|((with_reducible first|apply decide_eq_false|apply not_dt|apply z9b|apply zc8);omega))|((with_reducible first|apply Wp.callN|apply Wp.callK);(with_reducible assumption))|((with_reducible apply Wp.outK);(with_reducible assumption))|(with_reducible first|refine y34 (by assumption) ?_|refine y22 (by assumption) ?_|refine Wp.go2 (by assumption) ?_)|rw[z2d])
   rw[el];have:=z435 x c;exact do_loop hdb ho rd hl todo (i+1) fu (do1 x c) v'' H' hd2 (by omega) K' hL.2 (by omega) hk
  have g1:((D.set o (.bool x.th)).set (o+1) v')[o+1]? =some v':=List.getElem?_set_self (by rw[List.length_set];exact ho)
  rcases hL.1 with h0|⟨h1,hc0,hc1⟩|h2
  ·refine yc (zf7 (by omega)) ?_
   have ed:do1 x c=⟨true,x.u++c.s⟩:=by unfold do1;rw[if_pos h0]
   rw[ed] at next;refine Wp.obind (z10 _ _) (Wp.obind (z7 _ _ _) (Wp.st1 kr (show o+0<_ by omega) rfl fun h4 k4' t4 n4=>?_));have kb4:=kb.tch t4 (fun b hb hm=>K.ndb (List.mem_singleton.1 hm▸hb));have kl4:=M3.at0.1.tch t4 M3.at0.2.1 (by simpa using hne);have g4:(((D.set o (.bool x.th)).set (o+1) v').set (o+0) (.bool true))[o+1]? =some v':=by rw[List.getElem?_set_ne (by omega)];exact g1
   obtain⟨v'',h5,e5,kb5,t5,s5⟩:=kb4.app c.s (by rw[t4.2.1,hx3]) (by omega);refine Wp.obind (z10 _ _) (Wp.obind (z7 _ _ _) (Wp.obind (y5 k4' g4) (Wp.obind (y5 kl4 (show (z399 c)[1]? =some (zc c.s) from rfl)) (Wp.obind (z12 _) (Wp.outK e5 (Wp.obind (z10 _ _) (Wp.obind (z7 _ _ _) ?_)))))));rw[kb5.one.2];have hdb4:db<h4.next:=by omega
   have kr5:=k4'.tch t5 hdb4 K.ndb;have n5:=t5.1;refine Wp.st1 kr5 (show o+1<_ by rw[List.length_set];exact hlen) kb5.one.1 fun h6 k6 t6 n6=>?_
   have hnd:db ∉ z43 v'':=fun hb=>by
    rcases s5 _ hb with hb|hb
    ·exact K.ndb hb
    ·omega
   have ts:∀b∈z43 v',b∈db::z43 v∨h.next≤b:=fun b hb=>(K.sub b hb).imp (List.mem_cons_of_mem _) id;have td:∀b∈[db],b∈db::z43 v∨h.next≤b:=fun b hb=>.inl (by rw[List.mem_singleton.1 hb];exact List.mem_cons_self);refine next h6 v'' ⟨?_,kb5.tch t6 (fun b hb hm=>hnd (List.mem_singleton.1 hm▸hb)),hnd,fun b hb=>?_,(((K.tch.trans' t3 fun b hb=>nomatch hb).trans' t4 td).trans' t5 ts).trans' t6 td,by rw[t6.2.1,t5.2.1,t4.2.1,hx3]⟩
   ·have k6' : RowH h6 db T ((((D.set o (.bool x.th)).set (o + 1) v').set o (.bool true)).set (o + 1) v'') := k6
    rw[set4] at k6';exact k6'
   ·rcases s5 b hb with hb | hb
    ·exact K.sub b hb
    ·omega
  ·refine y8 (zc8 (by omega)) ?_
   have ed:do1 x c=⟨x.th,x.u.take c.n.toNat⟩:=by unfold do1;rw[if_neg (by omega),if_pos h1]
   rw[ed] at next;obtain⟨v'',e5,kb5,hb5⟩:=kb.cut hc0 hc1;refine Wp.lett (y9 fun k47 ek47=>yc (zf7 (by omega)) (Wp.obind (z10 _ _) (Wp.obind (z7 _ _ _) (Wp.obind (y5 kr g1) (Wp.obind (y5 M3.at0.1 (show (z399 c)[2]? =some (.int .i64 c.n) from rfl)) (Wp.obind (z5 _ _) (Wp.outK e5 (Wp.obind (z10 _ _) (Wp.obind (z7 _ _ _) ?_)))))))));rw[kb5.one.2];refine Wp.st1 kr (show o+1<_ by exact hlen) kb5.one.1 fun h6 k6 t6 n6=>?_;rw[ek47];have hnd:db ∉ z43 v'':=by rw[hb5];exact K.ndb
   have td:∀b∈[db],b∈db::z43 v∨h.next≤b:=fun b hb=>.inl (by rw[List.mem_singleton.1 hb];exact List.mem_cons_self);refine next h6 v'' ⟨?_,kb5.tch t6 (fun b hb hm=>hnd (List.mem_singleton.1 hm▸hb)),hnd,(by rw[hb5];exact K.sub),(K.tch.trans' t3 fun b hb=>nomatch hb).trans' t6 td,by rw[t6.2.1,hx3]⟩;have k6':=k6;rw[set3] at k6';exact k6'
  ·refine y8 (zc8 (by omega)) ?_
   have ed:do1 x c=⟨false,[]⟩:=by unfold do1;rw[if_neg (by omega),if_neg (by omega)]
   rw[ed] at next;refine Wp.lett (y9 fun k47 ek47=>y8 (zc8 (by omega)) (Wp.lett (y9 fun k62 ek62=>yc (zf7 (by omega)) (Wp.obind (z10 _ _) (y43 kr (rfl:([.bool false,.nsl]:List AV).length=2) (show o+2≤_ by exact hlen) rfl fun h6 k6 t6 n6=>?_)))));rw[ek62,ek47];have td:∀b∈[db],b∈db::z43 v∨h.next≤b:=fun b hb=>.inl (by rw[List.mem_singleton.1 hb];exact List.mem_cons_self);refine next h6 .nsl ⟨?_,.inl ⟨rfl,rfl⟩,(fun h=>nomatch h),(fun _ h=>nomatch h),(K.tch.trans' t3 fun b hb=>nomatch hb).trans' t6 td,by rw[t6.2.1,hx3]⟩;have k6':=k6;rw[laid2 hlen,set4] at k6';exact k6'
theorem do_ok{x:Cont}(hn:1000000<n)(hdb:db<h.next)(kr:RowH h db T D)(h0:D[o]? =some (.bool x.th))(h1:D[o+1]? =some v)(kb:BufAt h v x.u)(hnd:db ∉ z43 v)(hx:h.ex=[])(rd:RdL h (db::z43 v) lv l)(hl:l.length<1000000)(hL:z322 x l)(hb:x.u.length+z2cc l≤100000000):
  ∃h' v',world n (d+1) 56 [.ptr db o,lv] h=some (.ret (.tup []),h')∧DoAt h h' db T o D v v' (doL x l):=by
 suffices hK:Wp (world n (d+1) 56 [.ptr db o,lv] h) fun r h'=>r=.ret (.tup [])∧∃v',DoAt h h' db T o D v v' (doL x l) by
  obtain⟨_,h',e,rfl,v',k⟩:=hK;exact⟨h',v',e,k⟩
 rw[z26e];unfold zae;refine Wp.obind rd.1 (y9 fun k4 ek=>?_);have ho:o+1<D.length:=(List.getElem?_eq_some_iff.1 h1).1
 have e0:(D.set o (.bool x.th)).set (o+1) v=D:=by
  obtain⟨_,e1⟩:=List.getElem?_eq_some_iff.1 h0;obtain⟨_,e2⟩:=List.getElem?_eq_some_iff.1 h1;rw[←e1,List.set_getElem_self, ←e2,List.set_getElem_self]
 refine do_loop hdb ho rd hl l 0 n x v h (List.drop_zero) (by omega) ⟨by rw[e0];exact kr,kb,hnd,fun b hb=>.inl hb,Tch.refl _ _,hx⟩ hL hb fun H' v'' K=>?_;rw[ek];exact Wp.ret ⟨rfl,v'',K⟩
end
end Go.Proofs.Ytbhblbffdmiepaa
