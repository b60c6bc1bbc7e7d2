/- What snapPlays_proved stands on, part 6 of 10. -/
import Derived.Test.YtpnccmlajhhpdaaSP5
import Derived.Test.YtpnccmlajhhpdaaRows
import Derived.WalkKit
import Derived.ProofKit
import Derived.OpenShut
import Derived.SizedLaws
import Derived.SliceStrings
namespace Go.Proofs.Ytpnccmlajhhpdaa
open Go.ChangeShapes Go.WideShapes Go.ChangeAt Go.RowKit
open Go.ChangeMaps (open_string shut_string)
theorem Try.own:ownKnob Try.prog.godebug=none:=by kernel_rfl
theorem y45:laidOutB Try.prog=true:=by kernel_rfl
section
variable {H:Type}{enc:TypeId×Value→H}
theorem stays{P:Program}(hP:laidOutB P=true){W W':World}(hb:Below W.heap.size W W')(ts:List TypeId):∀(vs:List Value) (ds:List (DataW H)) (ps:List MemPlace),
  DataW.TrodAll enc P W 0 (fun _=>true) true ts vs ds ps→(∀t∈ts,P.readableRec t=true∧t<P.types.size)→(∀x∈ps,x.block<W.heap.size)→
  DataW.TrodAll enc P W' 0 (fun b=>decide (b<W.heap.size)) true ts vs ds ps:=by
 induction ts with
 |nil=>
  intro vs ds ps h _ _;obtain⟨rfl,rfl,rfl⟩:=trodAll_nil h;exact trodAll_mk0
 |cons t ts ih=>
  intro vs ds ps h hr hlt;obtain⟨v,vs',d,ds',p,q,rfl,rfl,rfl,h1,h2⟩:=trodAll_cons h;obtain⟨hr1,hr2⟩:=hr t (List.mem_cons_self ..);exact trodAll_cons_mk (Below.trod hP hr1 hr2 h1 hb (fun x hx=>hlt x (List.mem_append_left _ hx))) (ih _ _ _ h2 (fun t ht=>hr t (List.mem_cons_of_mem _ ht)) (fun x hx=>hlt x (List.mem_append_right _ hx)))
theorem z3f8{P:Program}{ts:List TypeId}(h:(ts.all fun t=>P.readableRec t&&decide (t<P.types.size))=true):∀t∈ts,P.readableRec t=true∧t<P.types.size:=by
 intro t ht;have h1:=List.all_eq_true.1 h t ht;rw[Bool.and_eq_true] at h1;exact⟨h1.1,of_decide_eq_true h1.2⟩
set_option maxRecDepth 100000 in
theorem lifted_of{f:FuncId}{fn:Func}{s:ChangeSpec}(hfn:Try.prog.funcs[f]? =some fn)(noInit:Try.prog.inits.idxOf? f=none)(hvars:s.vars=[])(hres:fn.resultTypes= #[4])(hread:(fn.params.toList.all fun t=>Try.prog.readableRec t&&decide (t<Try.prog.types.size))=true)(hspec:∀(args:List Value) (ds:List (DataW H)) (W:World) (p:List MemPlace),DataW.TrodAll enc Try.prog W 0 (fun _=>true) true fn.params.toList args ds p→(s.fn H (ds++[])).results=[.lit (.bool true)]∧(s.fn H (ds++[])).args=ds∧(s.fn H (ds++[])).vars=[])(hplain:s.plain.varTypes Try.prog=[])(os:Os)(started:os.Started)(witness : ∃ (w : World) (tape : Tape) (i : Input), w.os = os ∧ (w.forCall tape i).Shaped Try.prog ∧ i.vars = [] ∧ Input.okWide Try.prog (w.forCall tape i) .any w.heap.size f i ∧
   s.pre6 enc Try.prog fn [] false (w.forCall tape i).memory i.args∧({}:Assume).holds Try.prog (lone (Frame.enter Try.prog f i.args .normal) [] (w.forCall tape i)))(walk : ∀ (W : World) (args : Array Value) (ds : List (DataW H)) (p : List MemPlace), (∀ (j : Nat) t v, fn.params[j]? = some t → args[j]? = some v → ∃ base, Value.okWide Try.prog W .any base t v) →
   DataW.TrodAll enc Try.prog W 0 (fun _=>true) true fn.params.toList args.toList ds p→(∀x∈p,x.block<W.heap.size)→
   (DataW.weightsEach Try.prog fn.params.toList ds).all (·≤reachBytes)=true→
   Calls Try.prog f args W fun e W'=>e=.returned (.bool true)∧Below W.heap.size W W'):
  ReturnsInHanded {} Try.checked os f .any (s.pre6 enc Try.prog fn [] false) (s.post enc Try.prog fn false true false false):=by
 refine returnsInHanded_of_change_sized (C:=Try.checked) Try.own started noInit hfn witness ?_;intro W base args ds gs before hval hW _ hsz0 _;have hW':=hW;obtain⟨p,q,hA0,hV,rfl,_,_⟩:=hW;have hA:DataW.TrodAll enc Try.prog W 0 (fun _=>true) true fn.params.toList args.toList ds p:=hA0;rw[hvars] at hV hW';obtain⟨rfl,rfl⟩:=trodVars_none hV;simp only[List.append_nil] at hW';have hlt:∀x∈p,x.block<W.heap.size:=fun x hx=>by simpa using hW'.lt x hx
 have hsz:(DataW.weightsEach Try.prog fn.params.toList ds).all (·≤reachBytes)=true:=by
  have h:=hsz0;rw[show s.plain.varTypes Try.checked.prog=[] from hplain] at h;simp only[List.append_nil] at h;exact h
 obtain⟨er,ea,ev⟩:=hspec args.toList ds W p hA;refine(walk W args ds p (fun j t v h1 h2=>⟨base,hval j t v h1 h2⟩) hA hlt hsz).mono fun e W' ⟨he,hb⟩=>?_;subst he;refine⟨_,rfl,ds,[],p,[],p,[],?_,?_,?_,?_,hb.frame _,fun h=>by cases h⟩
 ·rw[hvars];exact hW'
 ·rw[er,hres];exact trodAll_mk1 (shut_bool Try.underlying4 _)
 ·rw[ea];exact stays y45 hb _ _ _ _ hA (z3f8 hread) hlt
 ·rw[ev,hvars];trivial
end
open Go.RowKit Abs
noncomputable def z19f(_:z10)(_:Nat)(h:AHeap):R:=outK (zd9 h 106 (some (.agg ([.bool false,.nsl,.bool false,.nsl,.nsl,.bool false,.nsl,.bool false,.nsl,.nsl,.bool false,.nsl,.bool false,.nsl,.nsl,.bool false,.nsl,.bool false,.nsl,.nsl,.bool false,.nsl,.bool false,.nsl,.nsl,.bool false,.nsl,.bool false,.nsl,.nsl,.bool false,.nsl,.bool false,.nsl,.nsl,.bool false,.nsl,.bool false,.nsl,.nsl,.bool false,.nsl,.bool false,.nsl,.nsl,.bool false,.nsl,.bool false,.nsl,.nsl,.bool false,.nsl,.bool false,.nsl,.nsl,.bool false,.nsl,.bool false,.nsl,.nsl,.bool false,.nsl,.bool false,.nsl,.nsl,.bool false,.nsl,.bool false,.nsl,.nsl,.bool false,.nsl,.bool false,.nsl,.nsl,.bool false,.nsl,.bool false,.nsl,.nsl,.bool false,.nsl,.bool false,.nsl,.nsl,.bool false,.nsl,.bool false,.nsl,.nsl,.bool false,.nsl,.bool false,.nsl,.nsl,.bool false,.nsl,.bool false,.nsl,.nsl,.bool false,.nsl,.bool false,.nsl,.nsl,.bool false,.nsl,.bool false,.nsl,.nsl,.bool false,.nsl,.bool false,.nsl,.nsl,.bool false,.nsl,.bool false,.nsl,.nsl,.bool false,.nsl,.bool false,.nsl,.nsl,.bool false,.nsl,.bool false,.nsl,.nsl,.bool false,.nsl,.bool false,.nsl,.nsl,.bool false,.nsl,.bool false,.nsl,.nsl,.bool false,.nsl,.bool false,.nsl,.nsl,.bool false,.nsl,.bool false,.nsl,.nsl,.bool false,.nsl,.bool false,.nsl,.nsl,.bool false,.nsl,.bool false,.nsl,.nsl,.int .i64 (-1),.int .i64 0]:List AV)))) fun v2 h_3=>some (.ret (v2),h_3)
set_option maxHeartbeats 4000000 in
set_option maxRecDepth 20000 in
theorem z416{call:z10}(_:SaysAll Try.prog call){n:Nat}{h:AHeap}{rR:ARes}{hR:AHeap}(hF:z19f call n h=some (rR,hR)):Says Try.prog 13 [] h rR hR:=by
 unfold z19f at hF;exact sO Try.func13 fun w0 m0=>wW [] (oG fun n1=>W.r (oA 0 AV.nilp (oV [] (n1 (oG fun n2=>W.r (oA 1 (.agg ([.bool false,.nsl,.bool false,.nsl,.nsl,.bool false,.nsl,.bool false,.nsl,.nsl,.bool false,.nsl,.bool false,.nsl,.nsl,.bool false,.nsl,.bool false,.nsl,.nsl,.bool false,.nsl,.bool false,.nsl,.nsl,.bool false,.nsl,.bool false,.nsl,.nsl,.bool false,.nsl,.bool false,.nsl,.nsl,.bool false,.nsl,.bool false,.nsl,.nsl,.bool false,.nsl,.bool false,.nsl,.nsl,.bool false,.nsl,.bool false,.nsl,.nsl,.bool false,.nsl,.bool false,.nsl,.nsl,.bool false,.nsl,.bool false,.nsl,.nsl,.bool false,.nsl,.bool false,.nsl,.nsl,.bool false,.nsl,.bool false,.nsl,.nsl,.bool false,.nsl,.bool false,.nsl,.nsl,.bool false,.nsl,.bool false,.nsl,.nsl,.bool false,.nsl,.bool false,.nsl,.nsl,.bool false,.nsl,.bool false,.nsl,.nsl,.bool false,.nsl,.bool false,.nsl,.nsl,.bool false,.nsl,.bool false,.nsl,.nsl,.bool false,.nsl,.bool false,.nsl,.nsl,.bool false,.nsl,.bool false,.nsl,.nsl,.bool false,.nsl,.bool false,.nsl,.nsl,.bool false,.nsl,.bool false,.nsl,.nsl,.bool false,.nsl,.bool false,.nsl,.nsl,.bool false,.nsl,.bool false,.nsl,.nsl,.bool false,.nsl,.bool false,.nsl,.nsl,.bool false,.nsl,.bool false,.nsl,.nsl,.bool false,.nsl,.bool false,.nsl,.nsl,.bool false,.nsl,.bool false,.nsl,.nsl,.bool false,.nsl,.bool false,.nsl,.nsl,.bool false,.nsl,.bool false,.nsl,.nsl,.int .i64 (-1),.int .i64 0]:List AV)) (oK 2 hF fun v2 h_3 hF=>oA 0 v2 (oV [(0,v2)] (n2 (oY (lZ hF [.tmp 0] [v2] (rT zd))))))))))))
noncomputable def z7a(call:z10)(_:Nat)(t0:AV)(t1:Int)(t2:Bytes)(h:AHeap):R:=callN (call 50 [t0,.int .i64 t1] h) fun r10 h_4=>obind (z17 .i64 r10) fun t10=>lett ((t10:Int) != 0) fun (t12:Bool)=>ifB t12 (some (.ret (.int .i64 t10),h_4)) (obind (z53 t0) fun t18=>obind (z27 0 t18) fun t19=>obind (z169 32 5 t19 t1) fun t20=>obind (z27 2 t20) fun t21=>obind (z27 1 t21) fun t22=>obind (zc h_4 t22) fun v23=>obind (z12d v23) fun t24=>lett (IntKind.i64.wrap (1048576 - t24)) fun (t25:Int)=>lett (decide ((z3b t2)>t25)) fun (t26:Bool)=>ifB t26 (some (.ret (.int .i64 8),h_4)) (callN (call 51 [t0,.int .i64 t1,.agg ([.int .i64 0,z5 t2,.int .i64 0]:List AV)] h_4) fun r31 h_23=>obind (z17 .i64 r31) fun t31=>some (.ret (.int .i64 t31),h_23)))
set_option maxHeartbeats 4000000 in
set_option maxRecDepth 20000 in
theorem z201{call:z10}(hc:SaysAll Try.prog call){n:Nat}{t0:AV}{t1:Int}{t2:Bytes}{h:AHeap}{rR:ARes}{hR:AHeap}(hF:z7a call n t0 t1 t2 h=some (rR,hR)):Says Try.prog 26 [t0,.int .i64 t1,z5 t2] h rR hR:=by
 unfold z7a at hF;refine sO Try.func26 fun w0 m0=>wW [(0,t0),(1,.int .i64 t1),(2,z5 t2)] (oG fun n1=>W.r (oA 6 (.int .i64 0) (oV [(0,t0),(1,.int .i64 t1),(2,z5 t2)] (n1 (oH fun n2 q2=>oG fun n3=>W.r (oA 8 t0 (oA 9 (.int .i64 t1) (oCi hc 10 hF fun t10 h_4 hF=>oA 7 (.int .i64 t10) (oV [(0,t0),(1,.int .i64 t1),(2,z5 t2),(7,.int .i64 t10)] (n3 (oG fun n7=>W.r (oA 11 (.int .i64 t10) (oB 12 hF fun t12 hF=>oV [(0,t0),(1,.int .i64 t1),(2,z5 t2),(7,.int .i64 t10),(12,.bool t12)] (n7 ?_))))))))))))))
 cases t12 with
 |true=>
  exact oT hF fun hF=>oG fun n9=>W.r (oA 13 (.int .i64 t10) (oA 6 (.int .i64 t10) (oV [(6,.int .i64 t10)] (n9 (oY (q2 (lZ hF [.tmp 6] [.int .i64 t10] (rT zd))))))))
 |false=>
  refine oU hF fun hF=>oZ (n2 (oH fun n10 q10=>oG fun n11=>W.r (oA 14 (z5 t2) (oA 15 (.int .i64 (z3b t2)) (oA 16 t0 (oA 17 (.int .i64 t1) (oC0 18 hF fun t18 hF=>oF 19 106 0 hF fun t19 hF=>oQ 20 104 103 .i64 hF fun t20 hF=>oF 21 103 1 hF fun t21 hF=>oF 22 100 1 hF fun t22 hF=>oL 23 46 hF fun v23 hF=>oM 24 46 5 hF fun t24 hF=>oI 25 .i64 hF fun t25 hF=>oB 26 hF fun t26 hF=>oV [(0,t0),(1,.int .i64 t1),(2,z5 t2),(26,.bool t26)] (n11 ?_))))))))
  cases t26 with
  |true=>
   exact oT hF fun hF=>oG fun n21=>W.r (oA 6 (.int .i64 8) (oV [(6,.int .i64 8)] (n21 (oY (q10 (lZ hF [.tmp 6] [.int .i64 8] (rT zd)))))))
  |false=>
   exact oU hF fun hF=>oZ (n10 (oG fun n22=>W.r (oA 27 t0 (oA 28 (.int .i64 t1) (oA 29 (z5 t2) (oA 30 (.agg ([.int .i64 0,z5 t2,.int .i64 0]:List AV)) (oCi hc 31 hF fun t31 h_23 hF=>oA 6 (.int .i64 t31) (oV [(6,.int .i64 t31)] (n22 (oY (lZ hF [.tmp 6] [.int .i64 t31] (rT zd))))))))))))
noncomputable def zac(call:z10)(_:Nat)(t0:AV)(t1:Int)(h:AHeap):R:=callN (call 50 [t0,.int .i64 t1] h) fun r9 h_4=>obind (z17 .i64 r9) fun t9=>lett ((t9:Int) != 0) fun (t11:Bool)=>ifB t11 (some (.ret (.int .i64 t9),h_4)) (obind (z53 t0) fun t15=>obind (z27 0 t15) fun t16=>obind (z169 32 5 t16 t1) fun t17=>obind (z53 t17) fun t19=>obind (z27 0 t19) fun t20=>obind (z53 t17) fun t22=>obind (z27 4 t22) fun t23=>obind (zc h_4 t23) fun v24=>callN (call 72 [t20,v24] h_4) fun _ h_20=>obind (z53 t17) fun t27=>obind (z27 4 t27) fun t28=>obind (z22 h_20 1 (AV.cells AV.nsl) t28) fun h_25=>callN (call 74 [t0] h_25) fun _ h_28=>some (.ret (.int .i64 0),h_28))
set_option maxHeartbeats 4000000 in
set_option maxRecDepth 20000 in
theorem z25e{call:z10}(hc:SaysAll Try.prog call){n:Nat}{t0:AV}{t1:Int}{h:AHeap}{rR:ARes}{hR:AHeap}(hF:zac call n t0 t1 h=some (rR,hR)):Says Try.prog 64 [t0,.int .i64 t1] h rR hR:=by
 unfold zac at hF;refine sO Try.func64 fun w0 m0=>wW [(0,t0),(1,.int .i64 t1)] (oG fun n1=>W.r (oA 4 (.int .i64 0) (oV [(0,t0),(1,.int .i64 t1)] (n1 (oH fun n2 q2=>oG fun n3=>W.r (oA 7 t0 (oA 8 (.int .i64 t1) (oCi hc 9 hF fun t9 h_4 hF=>oA 5 (.int .i64 t9) (oV [(0,t0),(1,.int .i64 t1),(5,.int .i64 t9)] (n3 (oG fun n7=>W.r (oA 10 (.int .i64 t9) (oB 11 hF fun t11 hF=>oV [(0,t0),(1,.int .i64 t1),(5,.int .i64 t9),(11,.bool t11)] (n7 ?_))))))))))))))
 cases t11 with
 |true=>
  exact oT hF fun hF=>oG fun n9=>W.r (oA 12 (.int .i64 t9) (oA 4 (.int .i64 t9) (oV [(4,.int .i64 t9)] (n9 (oY (q2 (lZ hF [.tmp 4] [.int .i64 t9] (rT zd))))))))
 |false=>
  refine oU hF fun hF=>oZ (n2 (oG fun n10=>W.r (oA 13 t0 (oA 14 (.int .i64 t1) (oC0 15 hF fun t15 hF=>oF 16 106 0 hF fun t16 hF=>oQ 17 104 103 .i64 hF fun t17 hF=>oA 6 t17 (oV [(0,t0),(6,t17)] (n10 (oG fun n14=>W.draw (by kernel_rfl) (hc.ok w0) (plan:=[0,1,2,3,4,5,6,7]) (by kernel_rfl) (by kernel_rfl) (by kernel_rfl) (WD.a 0 (some 18) t17 h_4 ?_)))))))));obtain⟨t19,e15,hF⟩:=z4 hF;refine WD.b 0 (some 19) t19 h_4 (z2b (h:=h_4) e15) ?_;obtain⟨t20,e16,hF⟩:=z4 hF;refine WD.b 0 (some 20) t20 h_4 (z15 (P:=Try.prog) (h:=h_4) (s:=103) (f:=0) (by kernel_rfl) e16) (WD.a 0 (some 21) t17 h_4 ?_);obtain⟨t22,e17,hF⟩:=z4 hF;refine WD.b 0 (some 22) t22 h_4 (z2b (h:=h_4) e17) ?_;obtain⟨t23,e18,hF⟩:=z4 hF;refine WD.b 0 (some 23) t23 h_4 (z15 (P:=Try.prog) (h:=h_4) (s:=103) (f:=2) (by kernel_rfl) e18) ?_;obtain⟨v24,e19,hF⟩:=z4 hF;refine WD.b 1 (some 24) v24 h_4 (z14 (P:=Try.prog) (h:=h_4) (t:=101) (by kernel_rfl) e19) ?_;obtain⟨r25,h_20,e21,hF⟩:=z18 hF;exact WD.call (d:=(some 25)) (by kernel_rfl) (by kernel_rfl) (by kernel_rfl) e21 (k:=2) (by kernel_rfl) (fun _=>(by kernel_rfl)) (by decide) (WD.nil (gW [(0,t0),(6,t17)] (n14 (oG fun n22=>W.r (oA 26 t17 (oC0 27 hF fun t27 hF=>oF 28 103 2 hF fun t28 hF=>oW 101 AV.nsl hF fun h_25 hF=>oV [(0,t0)] (n22 (oG fun n27=>W.r (oA 29 t0 (oC hc (some 30) hF fun r30 h_28 hF=>oV [] (n27 (oG fun n30=>W.r (oA 4 (.int .i64 0) (oV [(4,.int .i64 0)] (n30 (oY (lZ hF [.tmp 4] [.int .i64 0] (rT zd))))))))))))))))))
noncomputable def z79(call:z10)(_:Nat)(t0:AV)(t1:Int)(h:AHeap):R:=callN (call 50 [t0,.int .i64 t1] h) fun r8 h_4=>obind (z17 .i64 r8) fun t8=>lett ((t8:Int) != 0) fun (t10:Bool)=>ifB t10 (some (.ret (.int .i64 t8),h_4)) (obind (z53 t0) fun t14=>obind (z27 0 t14) fun t15=>obind (z169 32 5 t15 t1) fun t16=>obind (z27 2 t16) fun t17=>obind (z27 0 t17) fun t18=>obind (zc h_4 t18) fun v19=>obind (z33 v19) fun t19=>lett (!t19) fun (t20:Bool)=>ifB t20 (some (.ret (.int .i64 4),h_4)) (callN (call 51 [t0,.int .i64 t1,.agg ([.int .i64 2,.str 0 0,.int .i64 0]:List AV)] h_4) fun r24 h_22=>obind (z17 .i64 r24) fun t24=>some (.ret (.int .i64 t24),h_22)))
set_option maxHeartbeats 4000000 in
set_option maxRecDepth 20000 in
theorem z200{call:z10}(hc:SaysAll Try.prog call){n:Nat}{t0:AV}{t1:Int}{h:AHeap}{rR:ARes}{hR:AHeap}(hF:z79 call n t0 t1 h=some (rR,hR)):Says Try.prog 63 [t0,.int .i64 t1] h rR hR:=by
 unfold z79 at hF;refine sO Try.func63 fun w0 m0=>wW [(0,t0),(1,.int .i64 t1)] (oG fun n1=>W.r (oA 4 (.int .i64 0) (oV [(0,t0),(1,.int .i64 t1)] (n1 (oH fun n2 q2=>oG fun n3=>W.r (oA 6 t0 (oA 7 (.int .i64 t1) (oCi hc 8 hF fun t8 h_4 hF=>oA 5 (.int .i64 t8) (oV [(0,t0),(1,.int .i64 t1),(5,.int .i64 t8)] (n3 (oG fun n7=>W.r (oA 9 (.int .i64 t8) (oB 10 hF fun t10 hF=>oV [(0,t0),(1,.int .i64 t1),(5,.int .i64 t8),(10,.bool t10)] (n7 ?_))))))))))))))
 cases t10 with
 |true=>
  exact oT hF fun hF=>oG fun n9=>W.r (oA 11 (.int .i64 t8) (oA 4 (.int .i64 t8) (oV [(4,.int .i64 t8)] (n9 (oY (q2 (lZ hF [.tmp 4] [.int .i64 t8] (rT zd))))))))
 |false=>
  refine oU hF fun hF=>oZ (n2 (oH fun n10 q10=>oG fun n11=>W.r (oA 12 t0 (oA 13 (.int .i64 t1) (oC0 14 hF fun t14 hF=>oF 15 106 0 hF fun t15 hF=>oQ 16 104 103 .i64 hF fun t16 hF=>oF 17 103 1 hF fun t17 hF=>oF 18 100 0 hF fun t18 hF=>oLb 19 4 hF fun t19 hF=>oB 20 hF fun t20 hF=>oV [(0,t0),(1,.int .i64 t1),(20,.bool t20)] (n11 ?_))))))
  cases t20 with
  |true=>
   exact oT hF fun hF=>oG fun n20=>W.r (oA 4 (.int .i64 4) (oV [(4,.int .i64 4)] (n20 (oY (q10 (lZ hF [.tmp 4] [.int .i64 4] (rT zd)))))))
  |false=>
   exact oU hF fun hF=>oZ (n10 (oG fun n21=>W.r (oA 21 t0 (oA 22 (.int .i64 t1) (oA 23 (.agg ([.int .i64 2,.str 0 0,.int .i64 0]:List AV)) (oCi hc 24 hF fun t24 h_22 hF=>oA 4 (.int .i64 t24) (oV [(4,.int .i64 t24)] (n21 (oY (lZ hF [.tmp 4] [.int .i64 t24] (rT zd)))))))))))
noncomputable def z71(t0:AV)(k12:AV→AHeap→R)(self:AV→Int→AHeap→R)(t3_16:AV)(t7:Int)(h_17:AHeap):R:=lett (decide (t7<32)) fun (t8:Bool)=>ifB t8 (obind (z53 t0) fun t12=>obind (z27 0 t12) fun t13=>obind (z169 32 5 t13 t7) fun t14=>obind (z27 2 t14) fun t15=>obind (z27 0 t15) fun t16=>obind (zc h_17 t16) fun v17=>obind (z33 v17) fun t17=>lett (fun (t3_33:AV) (h_34:AHeap)=>lett (IntKind.i64.wrap (t7+1)) fun (t22:Int)=>self t3_33 t22 h_34) fun k32=>ifB t17 (outK (z1df Try.prog h_17 44 1 [(0,.int .i64 t7)]) fun v20 h_36=>outK (z34 Try.prog h_36 44 44 t3_16 v20) fun v21 h_38=>k32 v21 h_38) (k32 t3_16 h_17)) (k12 t3_16 h_17)
noncomputable def z80(t0:AV)(k12:AV→AHeap→R):Nat→AV→Int→AHeap→R:=z122 (fun _ _ _=>none) (z71 t0 k12)
theorem zcf(t0:AV)(k12:AV→AHeap→R)(m:Nat):z80 t0 k12 (m+1)=z71 t0 k12 (z80 t0 k12 m):=rfl
noncomputable def z9c(_:z10)(n:Nat)(t0:AV)(h:AHeap):R:=outK (z75 Try.prog h .eql 36 true (some t0) (some AV.nilp)) fun v6 h_4=>obind (z33 v6) fun t6=>ifB t6 (some (.ret (AV.nsl),h_4)) (lett (fun (t3:AV) (h_13:AHeap)=>some (.ret (t3),h_13)) fun k12=>z80 t0 k12 n AV.nsl 0 h_4)
set_option maxHeartbeats 4000000 in
set_option maxRecDepth 20000 in
theorem z231{call:z10}(_:SaysAll Try.prog call){n:Nat}{t0:AV}{h:AHeap}{rR:ARes}{hR:AHeap}(hF:z9c call n t0 h=some (rR,hR)):Says Try.prog 17 [t0] h rR hR:=by
 unfold z9c at hF;refine sO Try.func17 fun w0 m0=>wW [(0,t0)] (oG fun n1=>W.r (oA 2 AV.nsl (oV [(0,t0)] (n1 (oH fun n2 q2=>oG fun n3=>W.r (oA 5 t0 ?_))))))
 replace hF:=z1c hF;obtain⟨v6,h_4,e5,hF⟩:=hF
 replace hF:=z4 hF;obtain⟨t6,c6,hF⟩:=hF
 have c6:=z24 c6;subst c6;refine WL.b (some 6) (.bool t6) h_4 e5 (oV [(0,t0),(6,.bool t6)] (n3 ?_))
 cases t6 with
 |true=>
  exact oT hF fun hF=>oG fun n7=>W.r (oA 2 AV.nsl (oV [(2,AV.nsl)] (n7 (oY (q2 (lZ hF [.tmp 2] [AV.nsl] (rT zd)))))))
 |false=>
  refine oU hF fun hF=>oZ (n2 (oG fun n8=>W.r (oA 3 AV.nsl (oV [(0,t0),(3,AV.nsl)] (n8 (W.s (fun K9 n9 e9 q9 p9=>oG fun n10=>W.r (oA 7 (.int .i64 0) (oV [(0,t0),(3,AV.nsl),(7,.int .i64 0)] (n10 ?_))))))))));obtain⟨k12,e12,hF⟩:=z6 hF
  have J12:∀(t3:AV) (h_13:AHeap),k12 t3 h_13=some (rR,hR)→Go w0 m0 (Func.ntmps Try.f17) (K9 .normal) [(3,t3)] [] h_13:=by
   intro t3 h_13 hF;rw[e12] at hF;exact n9 (oG fun n14=>W.r (oA 23 t3 (oA 2 t3 (oV [(2,t3)] (n14 (oY (lZ hF [.tmp 2] [t3] (rT zd))))))))
  refine W.blockK (by kernel_rfl) (fun K11 n11 s11 o11 q11 p11=>W.loopK (by kernel_rfl) (fun I15 K15 b15 n15 e15 q15 p15=>?_))
  have L15:∀(m:Nat) (t3_16:AV) (t7:Int) (h_17:AHeap),z80 t0 k12 m t3_16 t7 h_17=some (rR,hR)→Go w0 m0 (Func.ntmps Try.f17) I15 [(0,t0),(3,t3_16),(7,.int .i64 t7)] [] h_17:=by
   intro m
   induction m with
   |zero=>intro t3_16 t7 h_17 hF;cases hF
   |succ m ih15=>
    intro t3_16 t7 h_17 hF;rw[zcf] at hF;unfold z71 at hF;refine b15 (oG fun n18=>W.r (oB 8 hF fun t8 hF=>oV [(0,t0),(3,t3_16),(7,.int .i64 t7),(8,.bool t8)] (n18 (W.s (fun K20 n20 e20 q20 p20=>?_)))))
    cases t8 with
    |true=>
     refine oT hF fun hF=>oZ (n20 (oG fun n21=>W.blockK (by kernel_rfl) (fun K22 n22 s22 o22 q22 p22=>oG fun n23=>W.r (oA 9 (.int .i64 t7) (oA 4 (.int .i64 t7) (oV [(0,t0),(3,t3_16),(4,.int .i64 t7),(7,.int .i64 t7)] (n23 (oG fun n24=>W.r (oA 10 t0 (oA 11 (.int .i64 t7) (oC0 12 hF fun t12 hF=>oF 13 106 0 hF fun t13 hF=>oQ 14 104 103 .i64 hF fun t14 hF=>oF 15 103 1 hF fun t15 hF=>oF 16 100 0 hF fun t16 hF=>oLb 17 4 hF fun t17 hF=>oV [(0,t0),(3,t3_16),(4,.int .i64 t7),(7,.int .i64 t7),(17,.bool t17)] (n24 ?_))))))))))));obtain⟨k32,e32,hF⟩:=z6 hF
     have J32:∀(t3_33:AV) (h_34:AHeap),k32 t3_33 h_34=some (rR,hR)→Go w0 m0 (Func.ntmps Try.f17) (K22 .normal) [(0,t0),(3,t3_33),(7,.int .i64 t7)] [] h_34:=by
      intro t3_33 h_34 hF;rw[e32] at hF;exact n22 (n21 (W.r (oI 22 .i64 hF fun t22 hF=>oA 7 (.int .i64 t22) (oV [(0,t0),(3,t3_33),(7,.int .i64 t22)] (n15 (gW _ (ih15 _ _ _ hF)))))))
     cases t17 with
     |true=>
      exact oT hF fun hF=>W.r (oA 18 t3_16 (oA 19 (.int .i64 t7) (oK 20 hF fun v20 h_36 hF=>oK 21 hF fun v21 h_38 hF=>oA 3 v21 (oV [(0,t0),(3,v21),(7,.int .i64 t7)] (gW _ (J32 _ _ hF))))))
     |false=>
      exact oU hF fun hF=>oZ (gW _ (J32 _ _ hF))
    |false=>
     exact oU hF fun hF=>W.exit (by kernel_rfl) (e20 (e15 (s11 (by kernel_rfl) (gW _ (J12 _ _ hF)))))
  exact gW _ (L15 _ _ _ _ hF)
noncomputable def z9a(_:z10)(_:Nat)(t0:AV)(t1:Int)(h:AHeap):R:=
 outK (z75 Try.prog h .eql 36 true (some t0) (some AV.nilp)) fun v6 h_4=>
 obind (z33 v6) fun t6=>
 ifB t6
 (
  some (.ret (.int .i64 1),h_4))
 (
  lett (if (-1)>t1 then (-1) else t1) fun (t9:Int)=>
  obind (z53 t0) fun t10=>
  obind (z27 160 t10) fun t11=>
  obind (z22 h_4 1 [.int .i64 t9] t11) fun h_12=>
  some (.ret (.int .i64 0),h_12))
set_option maxHeartbeats 4000000 in
set_option maxRecDepth 20000 in
theorem z22f{call:z10}(_:SaysAll Try.prog call){n:Nat}{t0:AV}{t1:Int}{h:AHeap}{rR:ARes}{hR:AHeap}(hF:z9a call n t0 t1 h=some (rR,hR)):Says Try.prog 23 [t0,.int .i64 t1] h rR hR:=by
 unfold z9a at hF;refine sO Try.func23 fun w0 m0=>wW [(0,t0),(1,.int .i64 t1)] (oG fun n1=>W.r (oA 4 (.int .i64 0) (oV [(0,t0),(1,.int .i64 t1)] (n1 (oH fun n2 q2=>oG fun n3=>W.r (oA 5 t0 ?_))))))
 replace hF:=z1c hF;obtain⟨v6,h_4,e5,hF⟩:=hF
 replace hF:=z4 hF;obtain⟨t6,c6,hF⟩:=hF
 have c6:=z24 c6;subst c6;refine WL.b (some 6) (.bool t6) h_4 e5 (oV [(0,t0),(1,.int .i64 t1),(6,.bool t6)] (n3 ?_))
 cases t6 with
 |true=>
  exact oT hF fun hF=>oG fun n7=>W.r (oA 4 (.int .i64 1) (oV [(4,.int .i64 1)] (n7 (oY (q2 (lZ hF [.tmp 4] [.int .i64 1] (rT zd)))))))
 |false=>
  exact oU hF fun hF=>oZ (n2 (oG fun n8=>W.r (oA 7 t0 (oA 8 (.int .i64 t1) (oI 9 .i64 hF fun t9 hF=>oC0 10 hF fun t10 hF=>oF 11 106 1 hF fun t11 hF=>oW 3 (.int .i64 t9) hF fun h_12 hF=>oV [] (n8 (oG fun n14=>W.r (oA 4 (.int .i64 0) (oV [(4,.int .i64 0)] (n14 (oY (lZ hF [.tmp 4] [.int .i64 0] (rT zd)))))))))))))
noncomputable def zfa(_:z10)(_:Nat)(t0:AV)(h:AHeap):R:=outK (z75 Try.prog h .neq 36 true (some t0) (some AV.nilp)) fun v4 h_3=>obind (z33 v4) fun t4=>lett (fun (t11:Bool) (h_6:AHeap)=>some (.ret (.bool t11),h_6)) fun j11=>ifB t4 (obind (z53 t0) fun t7=>obind (z27 160 t7) fun t8=>obind (zc h_3 t8) fun v9=>obind (z17 .i64 v9) fun t9=>lett ((t9:Int) != 0) fun (t10:Bool)=>j11 t10 h_3) (j11 false h_3)
set_option maxHeartbeats 4000000 in
set_option maxRecDepth 20000 in
theorem z2cf{call:z10}(_:SaysAll Try.prog call){n:Nat}{t0:AV}{h:AHeap}{rR:ARes}{hR:AHeap}(hF:zfa call n t0 h=some (rR,hR)):Says Try.prog 59 [t0] h rR hR:=by
 unfold zfa at hF;refine sO Try.func59 fun w0 m0=>wW [(0,t0)] (oG fun n1=>W.r (oA 2 (.bool false) (oV [(0,t0)] (n1 (W.s (fun K2 n2 e2 q2 p2=>W.r (oA 3 t0 ?_)))))))
 replace hF:=z1c hF;obtain⟨v4,h_3,e4,hF⟩:=hF
 replace hF:=z4 hF;obtain⟨t4,c5,hF⟩:=hF
 have c5:=z24 c5;subst c5;refine WL.b (some 4) (.bool t4) h_3 e4 (oA 5 (.bool t4) ?_);obtain⟨j11,e7,hF⟩:=z6 hF
 have J8:∀(t11:Bool) (h_6:AHeap),j11 t11 h_6=some (rR,hR)→WL Try.prog w0 m0 (Func.ntmps Try.f59) (Code.ops (y6 (y5 (z2a Try.f59)))) 9 K2 [(11,.bool t11)] [] h_6:=by
  intro t11 h_6 hF;rw[e7] at hF;exact oA 2 (.bool t11) (oV [(2,.bool t11)] (n2 (oY (lZ hF [.tmp 2] [.bool t11] (rT zd)))))
 cases t4 with
 |true=>
  replace hF:=z4f hF
  exact oA 6 t0 (oC0 7 hF fun t7 hF=>oF 8 106 1 hF fun t8 hF=>oLi 9 3 hF fun t9 hF=>oB 10 hF fun t10 hF=>oA 11 (.bool t10) (lW _ (J8 _ _ hF)))
 |false=>
  replace hF:=z50 hF
  exact WL.o (some 6) (WL.o (some 7) (WL.o (some 8) (WL.o (some 9) (WL.o (some 10) (oA 11 (.bool false) (lW _ (J8 _ _ hF)))))))
noncomputable def zc8(_:z10)(_:Nat)(t0:AV)(h:AHeap):R:=outK (z75 Try.prog h .eql 36 true (some t0) (some AV.nilp)) fun v4 h_4=>obind (z33 v4) fun t4=>ifB t4 (some (.ret (.int .i64 0),h_4)) (obind (z53 t0) fun t6=>obind (z27 161 t6) fun t7=>obind (zc h_4 t7) fun v8=>obind (z17 .i64 v8) fun t8=>some (.ret (.int .i64 t8),h_4))
set_option maxHeartbeats 4000000 in
set_option maxRecDepth 20000 in
theorem z285{call:z10}(_:SaysAll Try.prog call){n:Nat}{t0:AV}{h:AHeap}{rR:ARes}{hR:AHeap}(hF:zc8 call n t0 h=some (rR,hR)):Says Try.prog 29 [t0] h rR hR:=by
 unfold zc8 at hF;refine sO Try.func29 fun w0 m0=>wW [(0,t0)] (oG fun n1=>W.r (oA 2 (.int .i64 0) (oV [(0,t0)] (n1 (oH fun n2 q2=>oG fun n3=>W.r (oA 3 t0 ?_))))))
 replace hF:=z1c hF;obtain⟨v4,h_4,e5,hF⟩:=hF
 replace hF:=z4 hF;obtain⟨t4,c6,hF⟩:=hF
 have c6:=z24 c6;subst c6;refine WL.b (some 4) (.bool t4) h_4 e5 (oV [(0,t0),(4,.bool t4)] (n3 ?_))
 cases t4 with
 |true=>
  exact oT hF fun hF=>oG fun n7=>W.r (oA 2 (.int .i64 0) (oV [(2,.int .i64 0)] (n7 (oY (q2 (lZ hF [.tmp 2] [.int .i64 0] (rT zd)))))))
 |false=>
  exact oU hF fun hF=>oZ (n2 (oG fun n8=>W.r (oA 5 t0 (oC0 6 hF fun t6 hF=>oF 7 106 2 hF fun t7 hF=>oLi 8 3 hF fun t8 hF=>oA 2 (.int .i64 t8) (oV [(2,.int .i64 t8)] (n8 (oY (lZ hF [.tmp 2] [.int .i64 t8] (rT zd)))))))))
noncomputable def z6b(call:z10)(_:Nat)(t0:AV)(t1:Int)(h:AHeap):R:=outK (z75 Try.prog h .eql 36 true (some t0) (some AV.nilp)) fun v7 h_5=>obind (z33 v7) fun t7=>ifB t7 (some (.ret (.int .i64 1),h_5)) (callN (call 59 [t0] h_5) fun r10 h_10=>obind (z33 r10) fun t10=>lett (!t10) fun (t11:Bool)=>ifB t11 (some (.ret (.int .i64 40),h_10)) (callN (call 53 [.int .i64 t1] h_10) fun r14 h_16=>obind (z33 r14) fun t14=>lett (!t14) fun (t15:Bool)=>ifB t15 (some (.ret (.int .i64 2),h_16)) (some (.ret (.int .i64 0),h_16))))
set_option maxHeartbeats 4000000 in
set_option maxRecDepth 20000 in
theorem z1de{call:z10}(hc:SaysAll Try.prog call){n:Nat}{t0:AV}{t1:Int}{h:AHeap}{rR:ARes}{hR:AHeap}(hF:z6b call n t0 t1 h=some (rR,hR)):Says Try.prog 50 [t0,.int .i64 t1] h rR hR:=by
 unfold z6b at hF;refine sO Try.func50 fun w0 m0=>wW [(0,t0),(1,.int .i64 t1)] (oG fun n1=>W.r (oA 4 (.int .i64 0) (oV [(0,t0),(1,.int .i64 t1)] (n1 (oH fun n2 q2=>W.blockK (by kernel_rfl) (fun K3 n3 s3 o3 q3 p3=>oG fun n4=>W.r (oA 6 t0 ?_)))))))
 replace hF:=z1c hF;obtain⟨v7,h_5,e6,hF⟩:=hF
 replace hF:=z4 hF;obtain⟨t7,c7,hF⟩:=hF
 have c7:=z24 c7;subst c7;refine WL.b (some 7) (.bool t7) h_5 e6 (oA 5 (.bool t7) (oV [(0,t0),(1,.int .i64 t1),(5,.bool t7)] (n4 ?_)))
 cases t7 with
 |true=>
  exact oT hF fun hF=>oG fun n8=>W.r (oA 4 (.int .i64 1) (oV [(4,.int .i64 1)] (n8 (oY (q3 (q2 (lZ hF [.tmp 4] [.int .i64 1] (rT zd))))))))
 |false=>
  refine oU hF fun hF=>oG fun n9=>W.r (oA 9 t0 (oCb hc 10 hF fun t10 h_10 hF=>oB 11 hF fun t11 hF=>oA 8 (.bool t11) (oV [(1,.int .i64 t1),(8,.bool t11)] (n9 ?_))))
  cases t11 with
  |true=>
   exact oT hF fun hF=>oG fun n14=>W.r (oA 4 (.int .i64 40) (oV [(4,.int .i64 40)] (n14 (oY (q3 (q2 (lZ hF [.tmp 4] [.int .i64 40] (rT zd))))))))
  |false=>
   refine oU hF fun hF=>oG fun n15=>W.r (oA 13 (.int .i64 t1) (oCb hc 14 hF fun t14 h_16 hF=>oB 15 hF fun t15 hF=>oA 12 (.bool t15) (oV [(12,.bool t15)] (n15 ?_))))
   cases t15 with
   |true=>
    exact oT hF fun hF=>oG fun n20=>W.r (oA 4 (.int .i64 2) (oV [(4,.int .i64 2)] (n20 (oY (q3 (q2 (lZ hF [.tmp 4] [.int .i64 2] (rT zd))))))))
   |false=>
    exact oU hF fun hF=>oZ (n3 (n2 (oG fun n21=>W.r (oA 4 (.int .i64 0) (oV [(4,.int .i64 0)] (n21 (oY (lZ hF [.tmp 4] [.int .i64 0] (rT zd)))))))))
noncomputable def z78(call:z10)(_:Nat)(t0:AV)(t1:Int)(t2:List AV)(h:AHeap):R:=
 outK (zd9 h 124 (some (.agg t2))) fun v5 h_2=>
 obind (z53 t0) fun t10=>
 obind (z27 0 t10) fun t11=>
 obind (z169 32 5 t11 t1) fun t12=>
 obind (z53 t12) fun t14=>
 obind (z27 2 t14) fun t15=>
 obind (z2c h_2 3 v5) fun t16=>
 outK (z1df Try.prog h_2 101 1 [(0,.agg t16)]) fun v17 h_12=>
 callN (call 72 [t15,v17] h_12) fun _ h_14=>
 obind (z53 t12) fun t21=>
 obind (z27 4 t21) fun t22=>
 obind (zc h_14 t22) fun v23=>
 obind (z2c h_14 3 v5) fun t24=>
 outK (z1df Try.prog h_14 101 1 [(0,.agg t24)]) fun v25 h_21=>
 chk (true&&(z86 Try.prog h_21 101 t22 v23&&true))<|
 outK (z34 Try.prog h_21 101 101 v23 v25) fun v26 h_24=>
 obind (z53 t12) fun t27=>
 obind (z27 4 t27) fun t28=>
 obind (z22 h_24 1 (AV.cells v26) t28) fun h_28=>
 callN (call 74 [t0] h_28) fun _ h_31=>
 some (.ret (.int .i64 0),h_31)
set_option maxHeartbeats 4000000 in
set_option maxRecDepth 20000 in
theorem z1ff{call:z10}(hc:SaysAll Try.prog call){n:Nat}{t0:AV}{t1:Int}{t2:List AV}{h:AHeap}{rR:ARes}{hR:AHeap}(hF:z78 call n t0 t1 t2 h=some (rR,hR)):Says Try.prog 51 [t0,.int .i64 t1,.agg t2] h rR hR:=by
 unfold z78 at hF;refine sO Try.func51 fun w0 m0=>wW [(0,t0),(1,.int .i64 t1),(2,.agg t2)] (oG fun n1=>W.r (oK 5 hF fun v5 h_2 hF=>oA 6 (.int .i64 0) (oV [(0,t0),(1,.int .i64 t1),(5,v5)] (n1 (oG fun n4=>W.r (oA 8 t0 (oA 9 (.int .i64 t1) (oC0 10 hF fun t10 hF=>oF 11 106 0 hF fun t11 hF=>oQ 12 104 103 .i64 hF fun t12 hF=>oA 7 t12 (oV [(0,t0),(5,v5),(7,t12)] (n4 (oG fun n8=>W.draw (by kernel_rfl) (hc.ok w0) (plan:=[0,1,2,3,4,5]) (by kernel_rfl) (by kernel_rfl) (by kernel_rfl) (WD.a 0 (some 13) t12 h_2 ?_))))))))))));obtain⟨t14,e9,hF⟩:=z4 hF;refine WD.b 0 (some 14) t14 h_2 (z2b (h:=h_2) e9) ?_;obtain⟨t15,e10,hF⟩:=z4 hF;refine WD.b 0 (some 15) t15 h_2 (z15 (P:=Try.prog) (h:=h_2) (s:=103) (f:=1) (by kernel_rfl) e10) ?_;obtain⟨t16,e11,hF⟩:=z4 hF;refine WD.b 1 (some 16) (.agg t16) h_2 (z64 (P:=Try.prog) (h:=h_2) (t:=124) (by kernel_rfl) (by kernel_rfl) e11) ?_;obtain⟨v17,h_12,e13,hF⟩:=z1c hF;refine WD.val (d:=(some 17)) (v:=v17) (h':=h_12) (by kernel_rfl) (by kernel_rfl) (Eq.trans (by kernel_rfl) e13) (k:=2) (by kernel_rfl) (fun _=>(by kernel_rfl)) (by decide) ?_;obtain⟨r18,h_14,e15,hF⟩:=z18 hF;refine WD.call (d:=(some 18)) (by kernel_rfl) (by kernel_rfl) (by kernel_rfl) e15 (k:=2) (by kernel_rfl) (fun _=>(by kernel_rfl)) (by decide) (WD.nil (gW [(0,t0),(5,v5),(7,t12)] (n8 (oG fun n16=>W.draw (by kernel_rfl) (hc.ok w0) (plan:=[0,1,2,3,4,5,6,7,8,9,10]) (by kernel_rfl) (by kernel_rfl) (by kernel_rfl) (WD.a 0 (some 19) t12 h_14 (WD.a 0 (some 20) t12 h_14 ?_))))));obtain⟨t21,e17,hF⟩:=z4 hF;refine WD.b 0 (some 21) t21 h_14 (z2b (h:=h_14) e17) ?_;obtain⟨t22,e18,hF⟩:=z4 hF;refine WD.b 0 (some 22) t22 h_14 (z15 (P:=Try.prog) (h:=h_14) (s:=103) (f:=2) (by kernel_rfl) e18) ?_;obtain⟨v23,e19,hF⟩:=z4 hF;refine WD.b 1 (some 23) v23 h_14 (z14 (P:=Try.prog) (h:=h_14) (t:=101) (by kernel_rfl) e19) ?_;obtain⟨t24,e20,hF⟩:=z4 hF;refine WD.b 1 (some 24) (.agg t24) h_14 (z64 (P:=Try.prog) (h:=h_14) (t:=124) (by kernel_rfl) (by kernel_rfl) e20) ?_;obtain⟨v25,h_21,e22,hF⟩:=z1c hF;obtain⟨k23,hF⟩:=z74 hF;refine WD.val (d:=(some 25)) (v:=v25) (h':=h_21) (by kernel_rfl) (by kernel_rfl) (Eq.trans (by kernel_rfl) e22) (k:=2) (by kernel_rfl) (fun _=>(Eq.trans (by kernel_rfl) k23)) (by decide) ?_;obtain⟨v26,h_24,e25,hF⟩:=z1c hF;refine WD.val (d:=(some 26)) (v:=v26) (h':=h_24) (by kernel_rfl) (by kernel_rfl) (Eq.trans (by kernel_rfl) e25) (k:=2) (by kernel_rfl) (fun _=>(by kernel_rfl)) (by decide) ?_;obtain⟨t27,e26,hF⟩:=z4 hF;refine WD.b 0 (some 27) t27 h_24 (z2b (h:=h_24) e26) ?_;obtain⟨t28,e27,hF⟩:=z4 hF;refine WD.b 0 (some 28) t28 h_24 (z15 (P:=Try.prog) (h:=h_24) (s:=103) (f:=2) (by kernel_rfl) e27) ?_;obtain⟨h_28,e29,hF⟩:=z4 hF;exact WD.eff (h':=h_28) (by kernel_rfl) (by kernel_rfl) (Eq.trans (by kernel_rfl) (z55 (P:=Try.prog) (h:=h_24) (t:=101) (v:=v26) (by kernel_rfl) (by kernel_rfl) e29)) (k:=2) (by kernel_rfl) (fun _=>(by kernel_rfl)) (by decide) (WD.nil (gW [(0,t0)] (n16 (oG fun n30=>W.r (oA 29 t0 (oC hc (some 30) hF fun r30 h_31 hF=>oV [] (n30 (oG fun n33=>W.r (oA 6 (.int .i64 0) (oV [(6,.int .i64 0)] (n33 (oY (lZ hF [.tmp 6] [.int .i64 0] (rT zd))))))))))))))
noncomputable def z70(t0:AV)(t1:AV)(t7:Int)(k4:AHeap→R)(self:Int→AHeap→R)(t8:Int)(h_7:AHeap):R:=lett (decide (t8<t7)) fun (t9:Bool)=>ifB t9 (obind (z150 3 t1 t8) fun t10=>obind (z2c h_7 3 t10) fun t11=>lett (newH h_7 124 [.int .i64 0,.str 0 0,.int .i64 0]) fun h_16=>obind (z22 h_16 3 t11 (z13 h_7)) fun h_18=>obind (zc h_18 (AV.ptr (AHeap.next h_7) 0)) fun v13=>obind (z17 .i64 v13) fun t13=>lett ((t13:Int) == 0) fun (t15:Bool)=>lett (fun (h_27:AHeap)=>lett (IntKind.i64.wrap (t8+1)) fun (t46:Int)=>self t46 h_27) fun k26=>ifB t15 (obind (z53 t0) fun t17=>obind (z27 0 t17) fun t18=>obind (z22 h_18 1 [.bool true] t18) fun h_32=>obind (z53 t0) fun t21=>obind (z27 1 t21) fun t22=>obind (zc h_32 t22) fun v23=>obind (zc h_32 (AV.ptr (AHeap.next h_7) 1)) fun v25=>obind (z20 v25) fun t25=>outK (z34 Try.prog h_32 46 9 v23 (z5 t25)) fun v26 h_39=>obind (z53 t0) fun t27=>obind (z27 1 t27) fun t28=>obind (z22 h_39 1 (AV.cells v26) t28) fun h_43=>k26 h_43) (lett ((t13:Int) == 1) fun (t30:Bool)=>lett (fun (h_48:AHeap)=>k26 h_48) fun k47=>ifB t30 (obind (z53 t0) fun t33=>obind (z27 1 t33) fun t34=>obind (zc h_18 t34) fun v35=>obind (zc h_18 (AV.ptr (AHeap.next h_7) 2)) fun v37=>obind (z17 .i64 v37) fun t37=>outK (z90 Try.prog h_18 46 v35 none (some (.int .i64 t37))) fun v38 h_54=>obind (z53 t0) fun t39=>obind (z27 1 t39) fun t40=>obind (z22 h_54 1 (AV.cells v38) t40) fun h_58=>k47 h_58) (lett ((t13:Int) == 2) fun (t42:Bool)=>lett (fun (h_63:AHeap)=>k47 h_63) fun k62=>ifB t42 (obind (z53 t0) fun t45=>obind (z22 h_18 2 ([.bool false,.nsl]:List AV) t45) fun h_65=>k62 h_65) (k62 h_18)))) (k4 h_7)
noncomputable def z7f(t0:AV)(t1:AV)(t7:Int)(k4:AHeap→R):Nat→Int→AHeap→R:=z122 (fun _ _=>none) (z70 t0 t1 t7 k4)
theorem zce(t0:AV)(t1:AV)(t7:Int)(k4:AHeap→R)(m:Nat):z7f t0 t1 t7 k4 (m+1)=z70 t0 t1 t7 k4 (z7f t0 t1 t7 k4 m):=rfl
noncomputable def z99(_:z10)(n:Nat)(t0:AV)(t1:AV)(h:AHeap):R:=obind (z12d t1) fun t7=>lett (fun (h_5:AHeap)=>some (.ret (.tup []),h_5)) fun k4=>z7f t0 t1 t7 k4 n 0 h
set_option maxHeartbeats 4000000 in
set_option maxRecDepth 20000 in
theorem z22e{call:z10}(hc:SaysAll Try.prog call){n:Nat}{t0:AV}{t1:AV}{h:AHeap}{rR:ARes}{hR:AHeap}(hF:z99 call n t0 t1 h=some (rR,hR)):Says Try.prog 72 [t0,t1] h rR hR:=by
 unfold z99 at hF;refine sO Try.func72 fun w0 m0=>wW [(0,t0),(1,t1)] (oG fun n1=>W.r (oA 6 t1 (oM 7 101 124 hF fun t7 hF=>oA 8 (.int .i64 0) (oV [(0,t0),(6,t1),(7,.int .i64 t7),(8,.int .i64 0)] (n1 ?_)))));obtain⟨k4,e4,hF⟩:=z6 hF
 have J4:∀(h_5:AHeap),k4 h_5=some (rR,hR)→Go w0 m0 (Func.ntmps Try.f72) (Fin Try.prog Try.f72 w0 m0 rR hR .normal) [] [] h_5:=by
  intro h_5 hF;rw[e4] at hF;exact lY hF [] [] zd
 refine W.blockK (by kernel_rfl) (fun K3 n3 s3 o3 q3 p3=>W.loopK (by kernel_rfl) (fun I6 K6 b6 n6 e6 q6 p6=>?_))
 have L6:∀(m:Nat) (t8:Int) (h_7:AHeap),z7f t0 t1 t7 k4 m t8 h_7=some (rR,hR)→Go w0 m0 (Func.ntmps Try.f72) I6 [(0,t0),(6,t1),(7,.int .i64 t7),(8,.int .i64 t8)] [] h_7:=by
  intro m
  induction m with
  |zero=>intro t8 h_7 hF;cases hF
  |succ m ih6=>
   intro t8 h_7 hF;rw[zce] at hF;unfold z70 at hF;refine b6 (oG fun n8=>W.r (oB 9 hF fun t9 hF=>oV [(0,t0),(6,t1),(7,.int .i64 t7),(8,.int .i64 t8),(9,.bool t9)] (n8 (W.s (fun K10 n10 e10 q10 p10=>?_)))))
   cases t9 with
   |true=>
    refine oT hF fun hF=>oZ (n10 (oG fun n11=>W.blockK (by kernel_rfl) (fun K12 n12 s12 o12 q12 p12=>oG fun n13=>W.r (oP 10 101 124 .i64 hF fun t10 hF=>oR 11 124 hF fun t11 hF=>oN 5 hF fun h_16 hF=>oW 124 (.agg t11) hF fun h_18 hF=>oV [(0,t0),(5,(z13 h_7)),(6,t1),(7,.int .i64 t7),(8,.int .i64 t8)] (n13 (oG fun n20=>W.r (oA 12 (AV.ptr (AHeap.next h_7) 0) (oLi 13 122 hF fun t13 hF=>oV [(0,t0),(5,(z13 h_7)),(6,t1),(7,.int .i64 t7),(8,.int .i64 t8),(13,.int .i64 t13)] (n20 (W.blockK (by kernel_rfl) (fun K23 n23 s23 o23 q23 p23=>oG fun n24=>W.r (oB 15 hF fun t15 hF=>oA 14 (.bool t15) (oV [(0,t0),(5,(z13 h_7)),(6,t1),(7,.int .i64 t7),(8,.int .i64 t8),(13,.int .i64 t13),(14,.bool t15)] (n24 ?_))))))))))))));obtain⟨k26,e26,hF⟩:=z6 hF
    have J26:∀(h_27:AHeap),k26 h_27=some (rR,hR)→Go w0 m0 (Func.ntmps Try.f72) (K23 .normal) [(0,t0),(6,t1),(7,.int .i64 t7),(8,.int .i64 t8)] [] h_27:=by
     intro h_27 hF;rw[e26] at hF;exact n23 (n12 (n11 (W.r (oI 46 .i64 hF fun t46 hF=>oA 8 (.int .i64 t46) (oV [(0,t0),(6,t1),(7,.int .i64 t7),(8,.int .i64 t46)] (n6 (gW _ (ih6 _ _ hF))))))))
    cases t15 with
    |true=>
     refine oT hF fun hF=>oG fun n29=>W.r (oA 16 t0 (oC0 17 hF fun t17 hF=>oF 18 100 0 hF fun t18 hF=>oW 4 (.bool true) hF fun h_32 hF=>oV [(0,t0),(5,(z13 h_7)),(6,t1),(7,.int .i64 t7),(8,.int .i64 t8)] (n29 (W.draw (by kernel_rfl) (hc.ok w0) (plan:=[0,1,2,3,4,5,6,7,8,9,10]) (by kernel_rfl) (by kernel_rfl) (by kernel_rfl) (WD.a 0 (some 19) t0 h_32 (WD.a 0 (some 20) t0 h_32 ?_))))));obtain⟨t21,e34,hF⟩:=z4 hF;refine WD.b 0 (some 21) t21 h_32 (z2b (h:=h_32) e34) ?_;obtain⟨t22,e35,hF⟩:=z4 hF;refine WD.b 0 (some 22) t22 h_32 (z15 (P:=Try.prog) (h:=h_32) (s:=100) (f:=1) (by kernel_rfl) e35) ?_;obtain⟨v23,e36,hF⟩:=z4 hF;refine WD.b 1 (some 23) v23 h_32 (z14 (P:=Try.prog) (h:=h_32) (t:=46) (by kernel_rfl) e36) (WD.a 0 (some 24) (AV.ptr (AHeap.next h_7) 1) h_32 ?_)
     replace hF:=z4 hF;obtain⟨v25,e37,hF⟩:=hF
     replace hF:=z4 hF;obtain⟨t25,c38,hF⟩:=hF
     have c38:=z19 c38;subst c38;refine WD.b 1 (some 25) (z5 t25) h_32 (z14 (P:=Try.prog) (h:=h_32) (t:=9) (by kernel_rfl) e37) ?_;obtain⟨v26,h_39,e40,hF⟩:=z1c hF;refine WD.val (d:=(some 26)) (v:=v26) (h':=h_39) (by kernel_rfl) (by kernel_rfl) (Eq.trans (by kernel_rfl) e40) (k:=2) (by kernel_rfl) (fun _=>(by kernel_rfl)) (by decide) ?_;obtain⟨t27,e41,hF⟩:=z4 hF;refine WD.b 0 (some 27) t27 h_39 (z2b (h:=h_39) e41) ?_;obtain⟨t28,e42,hF⟩:=z4 hF;refine WD.b 0 (some 28) t28 h_39 (z15 (P:=Try.prog) (h:=h_39) (s:=100) (f:=1) (by kernel_rfl) e42) ?_;obtain⟨h_43,e44,hF⟩:=z4 hF;exact WD.eff (h':=h_43) (by kernel_rfl) (by kernel_rfl) (Eq.trans (by kernel_rfl) (z55 (P:=Try.prog) (h:=h_39) (t:=46) (v:=v26) (by kernel_rfl) (by kernel_rfl) e44)) (k:=2) (by kernel_rfl) (fun _=>(by kernel_rfl)) (by decide) (WD.nil (gW [(0,t0),(6,t1),(7,.int .i64 t7),(8,.int .i64 t8)] (gW _ (J26 _ hF))))
    |false=>
     refine oU hF fun hF=>oG fun n45=>W.r (oB 30 hF fun t30 hF=>oA 29 (.bool t30) (oV [(0,t0),(5,(z13 h_7)),(6,t1),(7,.int .i64 t7),(8,.int .i64 t8),(13,.int .i64 t13),(29,.bool t30)] (n45 ?_)));obtain⟨k47,e47,hF⟩:=z6 hF
     have J47:∀(h_48:AHeap),k47 h_48=some (rR,hR)→Go w0 m0 (Func.ntmps Try.f72) (K23 .normal) [(0,t0),(6,t1),(7,.int .i64 t7),(8,.int .i64 t8)] [] h_48:=by
      intro h_48 hF;rw[e47] at hF;exact gW _ (J26 _ hF)
     cases t30 with
     |true=>
      refine oT hF fun hF=>W.draw (by kernel_rfl) (hc.ok w0) (plan:=[0,1,2,3,4,5,6,7,8,9,10]) (by kernel_rfl) (by kernel_rfl) (by kernel_rfl) (WD.a 0 (some 31) t0 h_18 (WD.a 0 (some 32) t0 h_18 ?_));obtain⟨t33,e49,hF⟩:=z4 hF;refine WD.b 0 (some 33) t33 h_18 (z2b (h:=h_18) e49) ?_;obtain⟨t34,e50,hF⟩:=z4 hF;refine WD.b 0 (some 34) t34 h_18 (z15 (P:=Try.prog) (h:=h_18) (s:=100) (f:=1) (by kernel_rfl) e50) ?_;obtain⟨v35,e51,hF⟩:=z4 hF;refine WD.b 1 (some 35) v35 h_18 (z14 (P:=Try.prog) (h:=h_18) (t:=46) (by kernel_rfl) e51) (WD.a 0 (some 36) (AV.ptr (AHeap.next h_7) 2) h_18 ?_)
      replace hF:=z4 hF;obtain⟨v37,e52,hF⟩:=hF
      replace hF:=z4 hF;obtain⟨t37,c53,hF⟩:=hF
      have c53:=z1a c53;subst c53;refine WD.b 1 (some 37) (.int .i64 t37) h_18 (z14 (P:=Try.prog) (h:=h_18) (t:=3) (by kernel_rfl) e52) ?_;obtain⟨v38,h_54,e55,hF⟩:=z1c hF;refine WD.b 0 (some 38) v38 h_54 e55 ?_;obtain⟨t39,e56,hF⟩:=z4 hF;refine WD.b 0 (some 39) t39 h_54 (z2b (h:=h_54) e56) ?_;obtain⟨t40,e57,hF⟩:=z4 hF;refine WD.b 0 (some 40) t40 h_54 (z15 (P:=Try.prog) (h:=h_54) (s:=100) (f:=1) (by kernel_rfl) e57) ?_;obtain⟨h_58,e59,hF⟩:=z4 hF;exact WD.eff (h':=h_58) (by kernel_rfl) (by kernel_rfl) (Eq.trans (by kernel_rfl) (z55 (P:=Try.prog) (h:=h_54) (t:=46) (v:=v38) (by kernel_rfl) (by kernel_rfl) e59)) (k:=2) (by kernel_rfl) (fun _=>(by kernel_rfl)) (by decide) (WD.nil (gW [(0,t0),(6,t1),(7,.int .i64 t7),(8,.int .i64 t8)] (gW _ (J47 _ hF))))
     |false=>
      refine oU hF fun hF=>oG fun n60=>W.r (oB 42 hF fun t42 hF=>oA 41 (.bool t42) (oV [(0,t0),(6,t1),(7,.int .i64 t7),(8,.int .i64 t8),(41,.bool t42)] (n60 ?_)));obtain⟨k62,e62,hF⟩:=z6 hF
      have J62:∀(h_63:AHeap),k62 h_63=some (rR,hR)→Go w0 m0 (Func.ntmps Try.f72) (K23 .normal) [(0,t0),(6,t1),(7,.int .i64 t7),(8,.int .i64 t8)] [] h_63:=by
       intro h_63 hF;rw[e62] at hF;exact gW _ (J47 _ hF)
      cases t42 with
      |true=>
       exact oT hF fun hF=>W.r (oA 43 t0 (oA 44 (.agg ([.bool false,.nsl]:List AV)) (oC0 45 hF fun t45 hF=>oW 100 (.agg ([.bool false,.nsl]:List AV)) hF fun h_65 hF=>oV [(0,t0),(6,t1),(7,.int .i64 t7),(8,.int .i64 t8)] (gW _ (J62 _ hF)))))
      |false=>
       exact oU hF fun hF=>oZ (gW _ (J62 _ hF))
   |false=>
    exact oU hF fun hF=>W.exit (by kernel_rfl) (e10 (e6 (s3 (by kernel_rfl) (gW _ (J4 _ hF)))))
 exact gW _ (L6 _ _ _ hF)
noncomputable def zab(_:z10)(_:Nat)(t0:AV)(h:AHeap):R:=obind (z53 t0) fun t3=>obind (z27 161 t3) fun t4=>obind (zc h t4) fun v5=>obind (z17 .i64 v5) fun t5=>lett (IntKind.i64.wrap (t5+1)) fun (t6:Int)=>obind (z53 t0) fun t7=>obind (z27 161 t7) fun t8=>obind (z22 h 1 [.int .i64 t6] t8) fun h_9=>obind (z53 t0) fun t10=>obind (z27 160 t10) fun t11=>obind (zc h_9 t11) fun v12=>obind (z17 .i64 v12) fun t12=>lett (decide (t12>0)) fun (t13:Bool)=>lett (fun (h_18:AHeap)=>some (.ret (.tup []),h_18)) fun k17=>ifB t13 (obind (z53 t0) fun t15=>obind (z27 160 t15) fun t16=>obind (zc h_9 t16) fun v17=>obind (z17 .i64 v17) fun t17=>lett (IntKind.i64.wrap (t17 - 1)) fun (t18:Int)=>obind (z53 t0) fun t19=>obind (z27 160 t19) fun t20=>obind (z22 h_9 1 [.int .i64 t18] t20) fun h_26=>k17 h_26) (k17 h_9)
set_option maxHeartbeats 4000000 in
set_option maxRecDepth 20000 in
theorem z25d{call:z10}(_:SaysAll Try.prog call){n:Nat}{t0:AV}{h:AHeap}{rR:ARes}{hR:AHeap}(hF:zab call n t0 h=some (rR,hR)):Says Try.prog 74 [t0] h rR hR:=by
 unfold zab at hF;refine sO Try.func74 fun w0 m0=>wW [(0,t0)] (oG fun n1=>W.r (oA 2 t0 (oC0 3 hF fun t3 hF=>oF 4 106 2 hF fun t4 hF=>oLi 5 3 hF fun t5 hF=>oI 6 .i64 hF fun t6 hF=>oC0 7 hF fun t7 hF=>oF 8 106 2 hF fun t8 hF=>oW 3 (.int .i64 t6) hF fun h_9 hF=>oV [(0,t0)] (n1 (oG fun n11=>W.r (oA 9 t0 (oC0 10 hF fun t10 hF=>oF 11 106 1 hF fun t11 hF=>oLi 12 3 hF fun t12 hF=>oB 13 hF fun t13 hF=>oV [(0,t0),(13,.bool t13)] (n11 ?_))))))));obtain⟨k17,e17,hF⟩:=z6 hF
 have J17:∀(h_18:AHeap),k17 h_18=some (rR,hR)→Go w0 m0 (Func.ntmps Try.f74) (Fin Try.prog Try.f74 w0 m0 rR hR .normal) [] [] h_18:=by
  intro h_18 hF;rw[e17] at hF;exact lY hF [] [] zd
 cases t13 with
 |true=>
  exact oT hF fun hF=>W.r (oA 14 t0 (oC0 15 hF fun t15 hF=>oF 16 106 1 hF fun t16 hF=>oLi 17 3 hF fun t17 hF=>oI 18 .i64 hF fun t18 hF=>oC0 19 hF fun t19 hF=>oF 20 106 1 hF fun t20 hF=>oW 3 (.int .i64 t18) hF fun h_26 hF=>oV [] (gW _ (J17 _ hF))))
 |false=>
  exact oU hF fun hF=>oZ (gW _ (J17 _ hF))
noncomputable def zed(_:z10)(_:Nat)(t0:Int)(h:AHeap):R:=lett (decide (t0≥0)) fun (t4:Bool)=>lett (fun (t8:Bool) (h_4:AHeap)=>some (.ret (.bool t8),h_4)) fun j8=>ifB t4 (lett (decide (t0<32)) fun (t7:Bool)=>j8 t7 h) (j8 false h)
set_option maxHeartbeats 4000000 in
set_option maxRecDepth 20000 in
theorem z2fa{call:z10}(_:SaysAll Try.prog call){n:Nat}{t0:Int}{h:AHeap}{rR:ARes}{hR:AHeap}(hF:zed call n t0 h=some (rR,hR)):Says Try.prog 53 [.int .i64 t0] h rR hR:=by
 unfold zed at hF;refine sO Try.func53 fun w0 m0=>wW [(0,.int .i64 t0)] (oG fun n1=>W.r (oA 2 (.bool false) (oV [(0,.int .i64 t0)] (n1 (W.s (fun K2 n2 e2 q2 p2=>W.r (oA 3 (.int .i64 t0) (oB 4 hF fun t4 hF=>oA 5 (.bool t4) ?_))))))));obtain⟨j8,e5,hF⟩:=z6 hF
 have J6:∀(t8:Bool) (h_4:AHeap),j8 t8 h_4=some (rR,hR)→WL Try.prog w0 m0 (Func.ntmps Try.f53) (Code.ops (y6 (y5 (z2a Try.f53)))) 6 K2 [(8,.bool t8)] [] h_4:=by
  intro t8 h_4 hF;rw[e5] at hF;exact oA 2 (.bool t8) (oV [(2,.bool t8)] (n2 (oY (lZ hF [.tmp 2] [.bool t8] (rT zd)))))
 cases t4 with
 |true=>
  replace hF:=z4f hF
  exact oA 6 (.int .i64 t0) (oB 7 hF fun t7 hF=>oA 8 (.bool t7) (lW _ (J6 _ _ hF)))
 |false=>
  replace hF:=z50 hF
  exact WL.o (some 6) (WL.o (some 7) (oA 8 (.bool false) (lW _ (J6 _ _ hF))))
noncomputable def zae(call:z10)(_:Nat)(t0:AV)(t1:Int)(h:AHeap):R:=callN (call 50 [t0,.int .i64 t1] h) fun r10 h_4=>obind (z17 .i64 r10) fun t10=>lett ((t10:Int) != 0) fun (t12:Bool)=>ifB t12 (some (.ret (.tup [z5 ([]:Bytes),.int .i64 t10]),h_4)) (obind (z53 t0) fun t16=>obind (z27 0 t16) fun t17=>obind (z169 32 5 t17 t1) fun t18=>obind (z27 2 t18) fun t19=>obind (z53 t19) fun t21=>obind (z27 0 t21) fun t22=>obind (zc h_4 t22) fun v23=>obind (z33 v23) fun t23=>lett (!t23) fun (t24:Bool)=>ifB t24 (some (.ret (.tup [z5 ([]:Bytes),.int .i64 4]),h_4)) (obind (z53 t19) fun t26=>obind (z27 1 t26) fun t27=>obind (zc h_4 t27) fun v28=>outK (z7b Try.prog h_4 46 9 (some v28)) fun v29 h_27=>obind (z20 v29) fun t29=>some (.ret (.tup [z5 t29,.int .i64 0]),h_27)))
set_option maxHeartbeats 4000000 in
set_option maxRecDepth 20000 in
theorem z260{call:z10}(hc:SaysAll Try.prog call){n:Nat}{t0:AV}{t1:Int}{h:AHeap}{rR:ARes}{hR:AHeap}(hF:zae call n t0 t1 h=some (rR,hR)):Says Try.prog 60 [t0,.int .i64 t1] h rR hR:=by
 unfold zae at hF;refine sO Try.func60 fun w0 m0=>wW [(0,t0),(1,.int .i64 t1)] (oG fun n1=>W.r (oA 4 (z5 ([]:Bytes)) (oA 5 (.int .i64 0) (oV [(0,t0),(1,.int .i64 t1)] (n1 (oH fun n2 q2=>oG fun n3=>W.r (oA 8 t0 (oA 9 (.int .i64 t1) (oCi hc 10 hF fun t10 h_4 hF=>oA 6 (.int .i64 t10) (oV [(0,t0),(1,.int .i64 t1),(6,.int .i64 t10)] (n3 (oG fun n7=>W.r (oA 11 (.int .i64 t10) (oB 12 hF fun t12 hF=>oV [(0,t0),(1,.int .i64 t1),(6,.int .i64 t10),(12,.bool t12)] (n7 ?_)))))))))))))))
 cases t12 with
 |true=>
  exact oT hF fun hF=>oG fun n9=>W.r (oA 13 (.int .i64 t10) (oA 4 (z5 ([]:Bytes)) (oA 5 (.int .i64 t10) (oV [(4,z5 ([]:Bytes)),(5,.int .i64 t10)] (n9 (oY (q2 (lZ hF [.tmp 4,.tmp 5] [z5 ([]:Bytes),.int .i64 t10] (rT (rT zd))))))))))
 |false=>
  refine oU hF fun hF=>oZ (n2 (oG fun n10=>W.r (oA 14 t0 (oA 15 (.int .i64 t1) (oC0 16 hF fun t16 hF=>oF 17 106 0 hF fun t17 hF=>oQ 18 104 103 .i64 hF fun t18 hF=>oF 19 103 1 hF fun t19 hF=>oA 7 t19 (oV [(7,t19)] (n10 (oH fun n15 q15=>oG fun n16=>W.r (oA 20 t19 (oC0 21 hF fun t21 hF=>oF 22 100 0 hF fun t22 hF=>oLb 23 4 hF fun t23 hF=>oB 24 hF fun t24 hF=>oV [(7,t19),(24,.bool t24)] (n16 ?_)))))))))))
  cases t24 with
  |true=>
   exact oT hF fun hF=>oG fun n22=>W.r (oA 4 (z5 ([]:Bytes)) (oA 5 (.int .i64 4) (oV [(4,z5 ([]:Bytes)),(5,.int .i64 4)] (n22 (oY (q15 (lZ hF [.tmp 4,.tmp 5] [z5 ([]:Bytes),.int .i64 4] (rT (rT zd)))))))))
  |false=>
   refine oU hF fun hF=>oZ (n15 (oG fun n23=>W.r (oA 25 t19 (oC0 26 hF fun t26 hF=>oF 27 100 1 hF fun t27 hF=>oL 28 46 hF fun v28 hF=>?_))))
   replace hF:=z1c hF;obtain⟨v29,h_27,e28,hF⟩:=hF
   replace hF:=z4 hF;obtain⟨t29,c29,hF⟩:=hF
   have c29:=z19 c29;subst c29;exact WL.b (some 29) (z5 t29) h_27 e28 (oA 4 (z5 t29) (oA 5 (.int .i64 0) (oV [(4,z5 t29),(5,.int .i64 0)] (n23 (oY (lZ hF [.tmp 4,.tmp 5] [z5 t29,.int .i64 0] (rT (rT zd))))))))
noncomputable def zad(call:z10)(_:Nat)(t0:AV)(t1:Int)(h:AHeap):R:=
 outK (z75 Try.prog h .eql 36 true (some t0) (some AV.nilp)) fun v8 h_4=>
 obind (z33 v8) fun t8=>
 lett (fun (t13:Bool) (h_7:AHeap)=>
  ifB t13
  (
   some (.ret (.tup [z5 ([]:Bytes),.bool false]),h_7))
  (
   obind (z53 t0) fun t16=>
   obind (z27 0 t16) fun t17=>
   obind (z169 32 5 t17 t1) fun t18=>
   obind (z27 0 t18) fun t19=>
   obind (z53 t19) fun t21=>
   obind (z27 1 t21) fun t22=>
   obind (zc h_7 t22) fun v23=>
   obind (z53 t19) fun t26=>
   obind (z27 0 t26) fun t27=>
   obind (zc h_7 t27) fun v28=>
   obind (z33 v28) fun t28=>
   outK (z7b Try.prog h_7 46 9 (some v23)) fun v24 h_24=>
   obind (z20 v24) fun t24=>
   chk (z86 Try.prog h_24 4 t27 (.bool t28)&&(true&&true))<|
   some (.ret (.tup [z5 t24,.bool t28]),h_24))) fun j13=>
 ifB t8
 (
  j13 true h_4)
 (
  callN (call 53 [.int .i64 t1] h_4) fun r11 h_28=>
  obind (z33 r11) fun t11=>
  lett (!t11) fun (t12:Bool)=>
  j13 t12 h_28)
set_option maxHeartbeats 4000000 in
set_option maxRecDepth 20000 in
theorem z25f{call:z10}(hc:SaysAll Try.prog call){n:Nat}{t0:AV}{t1:Int}{h:AHeap}{rR:ARes}{hR:AHeap}(hF:zad call n t0 t1 h=some (rR,hR)):Says Try.prog 28 [t0,.int .i64 t1] h rR hR:=by
 unfold zad at hF;refine sO Try.func28 fun w0 m0=>wW [(0,t0),(1,.int .i64 t1)] (oG fun n1=>W.r (oA 4 (z5 ([]:Bytes)) (oA 5 (.bool false) (oV [(0,t0),(1,.int .i64 t1)] (n1 (oH fun n2 q2=>W.s (fun K3 n3 e3 q3 p3=>W.r (oA 7 t0 ?_))))))))
 replace hF:=z1c hF;obtain⟨v8,h_4,e5,hF⟩:=hF
 replace hF:=z4 hF;obtain⟨t8,c6,hF⟩:=hF
 have c6:=z24 c6;subst c6;refine WL.b (some 8) (.bool t8) h_4 e5 (oA 9 (.bool t8) ?_);obtain⟨j13,e8,hF⟩:=z6 hF
 have J9:∀(t13:Bool) (h_7:AHeap),j13 t13 h_7=some (rR,hR)→WL Try.prog w0 m0 (Func.ntmps Try.f28) (Code.ops (y6 (y6 (y5 (z2a Try.f28))))) 7 K3 [(0,t0),(1,.int .i64 t1),(13,.bool t13)] [] h_7:=by
  intro t13 h_7 hF;rw[e8] at hF;refine oV [(0,t0),(1,.int .i64 t1),(13,.bool t13)] (n3 ?_)
  cases t13 with
  |true=>
   exact oT hF fun hF=>oG fun n10=>W.r (oA 4 (z5 ([]:Bytes)) (oA 5 (.bool false) (oV [(4,z5 ([]:Bytes)),(5,.bool false)] (n10 (oY (q2 (lZ hF [.tmp 4,.tmp 5] [z5 ([]:Bytes),.bool false] (rT (rT zd)))))))))
  |false=>
   refine oU hF fun hF=>oZ (n2 (oG fun n11=>W.r (oA 14 t0 (oA 15 (.int .i64 t1) (oC0 16 hF fun t16 hF=>oF 17 106 0 hF fun t17 hF=>oQ 18 104 103 .i64 hF fun t18 hF=>oF 19 103 0 hF fun t19 hF=>oA 6 t19 (oV [(6,t19)] (n11 (oG fun n16=>W.draw (by kernel_rfl) (hc.ok w0) (plan:=[0,1,2,3,5,6,7,8,4,9,10]) (by kernel_rfl) (by kernel_rfl) (by kernel_rfl) (WD.a 0 (some 20) t19 h_7 ?_)))))))));obtain⟨t21,e17,hF⟩:=z4 hF;refine WD.b 0 (some 21) t21 h_7 (z2b (h:=h_7) e17) ?_;obtain⟨t22,e18,hF⟩:=z4 hF;refine WD.b 0 (some 22) t22 h_7 (z15 (P:=Try.prog) (h:=h_7) (s:=100) (f:=1) (by kernel_rfl) e18) ?_;obtain⟨v23,e19,hF⟩:=z4 hF;refine WD.b 1 (some 23) v23 h_7 (z14 (P:=Try.prog) (h:=h_7) (t:=46) (by kernel_rfl) e19) (WD.a 0 (some 25) t19 h_7 ?_);obtain⟨t26,e20,hF⟩:=z4 hF;refine WD.b 0 (some 26) t26 h_7 (z2b (h:=h_7) e20) ?_;obtain⟨t27,e21,hF⟩:=z4 hF;refine WD.b 0 (some 27) t27 h_7 (z15 (P:=Try.prog) (h:=h_7) (s:=100) (f:=0) (by kernel_rfl) e21) ?_
   replace hF:=z4 hF;obtain⟨v28,e22,hF⟩:=hF
   replace hF:=z4 hF;obtain⟨t28,c23,hF⟩:=hF
   have c23:=z24 c23;subst c23;refine WD.b 1 (some 28) (.bool t28) h_7 (z14 (P:=Try.prog) (h:=h_7) (t:=4) (by kernel_rfl) e22) ?_
   replace hF:=z1c hF;obtain⟨v24,h_24,e25,hF⟩:=hF
   replace hF:=z4 hF;obtain⟨t24,c26,hF⟩:=hF
   have c26:=z19 c26;subst c26;obtain⟨k27,hF⟩:=z74 hF;exact WD.val (d:=(some 24)) (v:=z5 t24) (h':=h_24) (by kernel_rfl) (by kernel_rfl) (Eq.trans (by kernel_rfl) e25) (k:=2) (by kernel_rfl) (fun _=>(Eq.trans (by kernel_rfl) k27)) (by decide) (WD.a 0 (some 4) (z5 t24) h_24 (WD.a 0 (some 5) (.bool t28) h_24 (WD.nil (gW [(4,z5 t24),(5,.bool t28)] (n16 (oY (lZ hF [.tmp 4,.tmp 5] [z5 t24,.bool t28] (rT (rT zd)))))))))
 cases t8 with
 |true=>
  replace hF:=z4f hF
  exact WL.o (some 10) (WL.o (some 11) (WL.o (some 12) (oA 13 (.bool true) (lW _ (J9 _ _ hF)))))
 |false=>
  replace hF:=z50 hF
  exact oA 10 (.int .i64 t1) (oCb hc 11 hF fun t11 h_28 hF=>oB 12 hF fun t12 hF=>oA 13 (.bool t12) (lW _ (J9 _ _ hF)))
noncomputable def z9b(call:z10)(_:Nat)(t0:AV)(t1:Int)(h:AHeap):R:=outK (z75 Try.prog h .eql 36 true (some t0) (some AV.nilp)) fun v6 h_4=>obind (z33 v6) fun t6=>lett (fun (t11:Bool) (h_7:AHeap)=>ifB t11 (some (.ret (.int .i64 0),h_7)) (obind (z53 t0) fun t14=>obind (z27 0 t14) fun t15=>obind (z169 32 5 t15 t1) fun t16=>obind (z27 4 t16) fun t17=>obind (zc h_7 t17) fun v18=>obind (z12d v18) fun t19=>some (.ret (.int .i64 t19),h_7))) fun j11=>ifB t6 (j11 true h_4) (callN (call 53 [.int .i64 t1] h_4) fun r9 h_18=>obind (z33 r9) fun t9=>lett (!t9) fun (t10:Bool)=>j11 t10 h_18)
set_option maxHeartbeats 4000000 in
set_option maxRecDepth 20000 in
theorem z230{call:z10}(hc:SaysAll Try.prog call){n:Nat}{t0:AV}{t1:Int}{h:AHeap}{rR:ARes}{hR:AHeap}(hF:z9b call n t0 t1 h=some (rR,hR)):Says Try.prog 30 [t0,.int .i64 t1] h rR hR:=by
 unfold z9b at hF;refine sO Try.func30 fun w0 m0=>wW [(0,t0),(1,.int .i64 t1)] (oG fun n1=>W.r (oA 4 (.int .i64 0) (oV [(0,t0),(1,.int .i64 t1)] (n1 (oH fun n2 q2=>W.s (fun K3 n3 e3 q3 p3=>W.r (oA 5 t0 ?_)))))))
 replace hF:=z1c hF;obtain⟨v6,h_4,e5,hF⟩:=hF
 replace hF:=z4 hF;obtain⟨t6,c6,hF⟩:=hF
 have c6:=z24 c6;subst c6;refine WL.b (some 6) (.bool t6) h_4 e5 (oA 7 (.bool t6) ?_);obtain⟨j11,e8,hF⟩:=z6 hF
 have J9:∀(t11:Bool) (h_7:AHeap),j11 t11 h_7=some (rR,hR)→WL Try.prog w0 m0 (Func.ntmps Try.f30) (Code.ops (y6 (y6 (y5 (z2a Try.f30))))) 7 K3 [(0,t0),(1,.int .i64 t1),(11,.bool t11)] [] h_7:=by
  intro t11 h_7 hF;rw[e8] at hF;refine oV [(0,t0),(1,.int .i64 t1),(11,.bool t11)] (n3 ?_)
  cases t11 with
  |true=>
   exact oT hF fun hF=>oG fun n10=>W.r (oA 4 (.int .i64 0) (oV [(4,.int .i64 0)] (n10 (oY (q2 (lZ hF [.tmp 4] [.int .i64 0] (rT zd)))))))
  |false=>
   exact oU hF fun hF=>oZ (n2 (oG fun n11=>W.r (oA 12 t0 (oA 13 (.int .i64 t1) (oC0 14 hF fun t14 hF=>oF 15 106 0 hF fun t15 hF=>oQ 16 104 103 .i64 hF fun t16 hF=>oF 17 103 2 hF fun t17 hF=>oL 18 101 hF fun v18 hF=>oM 19 101 124 hF fun t19 hF=>oA 4 (.int .i64 t19) (oV [(4,.int .i64 t19)] (n11 (oY (lZ hF [.tmp 4] [.int .i64 t19] (rT zd))))))))))
 cases t6 with
 |true=>
  replace hF:=z4f hF
  exact WL.o (some 8) (WL.o (some 9) (WL.o (some 10) (oA 11 (.bool true) (lW _ (J9 _ _ hF)))))
 |false=>
  replace hF:=z50 hF
  exact oA 8 (.int .i64 t1) (oCb hc 9 hF fun t9 h_18 hF=>oB 10 hF fun t10 hF=>oA 11 (.bool t10) (lW _ (J9 _ _ hF)))
noncomputable def z72(call:z10)(t0:AV)(t1:AV)(t2:Int)(k11:AHeap→R)(self:Int→AHeap→R)(t11:Int)(h_20:AHeap):R:=lett (decide (t11<32)) fun (t12:Bool)=>ifB t12 (obind (z12d t1) fun t16=>lett (decide (t11<t16)) fun (t17:Bool)=>lett (fun (t8:Int) (h_33:AHeap)=>obind (z53 t0) fun t24=>obind (z27 0 t24) fun t25=>obind (z169 32 5 t25 t11) fun t26=>callN (call 49 [t26,.int .i64 t8,.int .i64 t2] h_33) fun _ h_37=>lett (IntKind.i64.wrap (t11+1)) fun (t30:Int)=>self t30 h_37) fun k32=>ifB t17 (obind (z150 1 t1 t11) fun t20=>obind (zc h_20 t20) fun v21=>obind (z17 .i64 v21) fun t21=>k32 t21 h_20) (k32 0 h_20)) (k11 h_20)
noncomputable def z81(call:z10)(t0:AV)(t1:AV)(t2:Int)(k11:AHeap→R):Nat→Int→AHeap→R:=z122 (fun _ _=>none) (z72 call t0 t1 t2 k11)
theorem zd0(call:z10)(t0:AV)(t1:AV)(t2:Int)(k11:AHeap→R)(m:Nat):z81 call t0 t1 t2 k11 (m+1)=z72 call t0 t1 t2 k11 (z81 call t0 t1 t2 k11 m):=rfl
noncomputable def z9d(call:z10)(n:Nat)(t0:AV)(t1:AV)(t2:Int)(h:AHeap):R:=outK (z75 Try.prog h .eql 36 true (some t0) (some AV.nilp)) fun v10 h_4=>obind (z33 v10) fun t10=>ifB t10 (some (.ret (.int .i64 1),h_4)) (lett (fun (h_12:AHeap)=>obind (z53 t0) fun t32=>obind (z27 160 t32) fun t33=>obind (z22 h_12 1 [.int .i64 (-1)] t33) fun h_16=>some (.ret (.int .i64 0),h_16)) fun k11=>z81 call t0 t1 t2 k11 n 0 h_4)
set_option maxHeartbeats 4000000 in
set_option maxRecDepth 20000 in
theorem z232{call:z10}(hc:SaysAll Try.prog call){n:Nat}{t0:AV}{t1:AV}{t2:Int}{h:AHeap}{rR:ARes}{hR:AHeap}(hF:z9d call n t0 t1 t2 h=some (rR,hR)):Says Try.prog 25 [t0,t1,.int .i64 t2] h rR hR:=by
 unfold z9d at hF;refine sO Try.func25 fun w0 m0=>wW [(0,t0),(1,t1),(2,.int .i64 t2)] (oG fun n1=>W.r (oA 6 (.int .i64 0) (oV [(0,t0),(1,t1),(2,.int .i64 t2)] (n1 (oH fun n2 q2=>oG fun n3=>W.r (oA 9 t0 ?_))))))
 replace hF:=z1c hF;obtain⟨v10,h_4,e5,hF⟩:=hF
 replace hF:=z4 hF;obtain⟨t10,c6,hF⟩:=hF
 have c6:=z24 c6;subst c6;refine WL.b (some 10) (.bool t10) h_4 e5 (oV [(0,t0),(1,t1),(2,.int .i64 t2),(10,.bool t10)] (n3 ?_))
 cases t10 with
 |true=>
  exact oT hF fun hF=>oG fun n7=>W.r (oA 6 (.int .i64 1) (oV [(6,.int .i64 1)] (n7 (oY (q2 (lZ hF [.tmp 6] [.int .i64 1] (rT zd)))))))
 |false=>
  refine oU hF fun hF=>oZ (n2 (W.s (fun K8 n8 e8 q8 p8=>oG fun n9=>W.r (oA 11 (.int .i64 0) (oV [(0,t0),(1,t1),(2,.int .i64 t2),(11,.int .i64 0)] (n9 ?_))))));obtain⟨k11,e11,hF⟩:=z6 hF
  have J11:∀(h_12:AHeap),k11 h_12=some (rR,hR)→Go w0 m0 (Func.ntmps Try.f25) (K8 .normal) [(0,t0)] [] h_12:=by
   intro h_12 hF;rw[e11] at hF;exact n8 (oG fun n13=>W.r (oA 31 t0 (oC0 32 hF fun t32 hF=>oF 33 106 1 hF fun t33 hF=>oW 3 (.int .i64 (-1)) hF fun h_16 hF=>oV [] (n13 (oG fun n18=>W.r (oA 6 (.int .i64 0) (oV [(6,.int .i64 0)] (n18 (oY (lZ hF [.tmp 6] [.int .i64 0] (rT zd)))))))))))
  refine W.blockK (by kernel_rfl) (fun K10 n10 s10 o10 q10 p10=>W.loopK (by kernel_rfl) (fun I19 K19 b19 n19 e19 q19 p19=>?_))
  have L19:∀(m:Nat) (t11:Int) (h_20:AHeap),z81 call t0 t1 t2 k11 m t11 h_20=some (rR,hR)→Go w0 m0 (Func.ntmps Try.f25) I19 [(0,t0),(1,t1),(2,.int .i64 t2),(11,.int .i64 t11)] [] h_20:=by
   intro m
   induction m with
   |zero=>intro t11 h_20 hF;cases hF
   |succ m ih19=>
    intro t11 h_20 hF;rw[zd0] at hF;unfold z72 at hF;refine b19 (oG fun n21=>W.r (oB 12 hF fun t12 hF=>oV [(0,t0),(1,t1),(2,.int .i64 t2),(11,.int .i64 t11),(12,.bool t12)] (n21 (W.s (fun K23 n23 e23 q23 p23=>?_)))))
    cases t12 with
    |true=>
     refine oT hF fun hF=>oZ (n23 (oG fun n24=>W.blockK (by kernel_rfl) (fun K25 n25 s25 o25 q25 p25=>oG fun n26=>W.r (oA 13 (.int .i64 t11) (oA 7 (.int .i64 t11) (oV [(0,t0),(1,t1),(2,.int .i64 t2),(7,.int .i64 t11),(11,.int .i64 t11)] (n26 (oG fun n27=>W.r (oA 8 (.int .i64 0) (oV [(0,t0),(1,t1),(2,.int .i64 t2),(7,.int .i64 t11),(8,.int .i64 0),(11,.int .i64 t11)] (n27 (W.s (fun K28 n28 e28 q28 p28=>oG fun n29=>W.r (oA 14 (.int .i64 t11) (oA 15 t1 (oM 16 44 3 hF fun t16 hF=>oB 17 hF fun t17 hF=>oV [(0,t0),(1,t1),(2,.int .i64 t2),(7,.int .i64 t11),(8,.int .i64 0),(11,.int .i64 t11),(17,.bool t17)] (n29 ?_)))))))))))))))));obtain⟨k32,e32,hF⟩:=z6 hF
     have J32:∀(t8:Int) (h_33:AHeap),k32 t8 h_33=some (rR,hR)→Go w0 m0 (Func.ntmps Try.f25) (K28 .normal) [(0,t0),(1,t1),(2,.int .i64 t2),(7,.int .i64 t11),(8,.int .i64 t8),(11,.int .i64 t11)] [] h_33:=by
      intro t8 h_33 hF;rw[e32] at hF;exact n28 (W.r (oA 22 t0 (oA 23 (.int .i64 t11) (oC0 24 hF fun t24 hF=>oF 25 106 0 hF fun t25 hF=>oQ 26 104 103 .i64 hF fun t26 hF=>oA 27 (.int .i64 t8) (oA 28 (.int .i64 t2) (oC hc (some 29) hF fun r29 h_37 hF=>oV [(0,t0),(1,t1),(2,.int .i64 t2),(11,.int .i64 t11)] (n25 (n24 (W.r (oI 30 .i64 hF fun t30 hF=>oA 11 (.int .i64 t30) (oV [(0,t0),(1,t1),(2,.int .i64 t2),(11,.int .i64 t30)] (n19 (gW _ (ih19 _ _ hF))))))))))))))
     cases t17 with
     |true=>
      exact oT hF fun hF=>W.r (oA 18 t1 (oA 19 (.int .i64 t11) (oP 20 44 3 .i64 hF fun t20 hF=>oLi 21 3 hF fun t21 hF=>oA 8 (.int .i64 t21) (oV [(0,t0),(1,t1),(2,.int .i64 t2),(7,.int .i64 t11),(8,.int .i64 t21),(11,.int .i64 t11)] (gW _ (J32 _ _ hF))))))
     |false=>
      exact oU hF fun hF=>oZ (gW _ (J32 _ _ hF))
    |false=>
     exact oU hF fun hF=>W.exit (by kernel_rfl) (e23 (e19 (s10 (by kernel_rfl) (gW _ (J11 _ hF)))))
  exact gW _ (L19 _ _ _ hF)
noncomputable def z98(call:z10)(_:Nat)(t0:AV)(t1:Int)(t2:Int)(h:AHeap):R:=
 lett (if 0>t1 then 0 else t1) fun (t8:Int)=>
 obind (z53 t0) fun t10=>
 obind (z27 4 t10) fun t11=>
 obind (zc h t11) fun v12=>
 obind (z12d v12) fun t13=>
 lett (if t13<t8 then t13 else t8) fun (t14:Int)=>
 obind (z53 t0) fun t16=>
 obind (z27 0 t16) fun t17=>
 obind (z53 t0) fun t19=>
 obind (z27 4 t19) fun t20=>
 obind (zc h t20) fun v21=>
 outK (z90 Try.prog h 101 v21 none (some (.int .i64 t14))) fun v23 h_14=>
 callN (call 72 [t17,v23] h_14) fun _ h_16=>
 obind (z53 t0) fun t27=>
 obind (z27 4 t27) fun t28=>
 obind (zc h_16 t28) fun v29=>
 obind (z12d v29) fun t30=>
 lett (decide (t14<t30)) fun (t31:Bool)=>
 lett (fun (t35:Bool) (h_25:AHeap)=>
  lett (fun (h_29:AHeap)=>
   obind (z53 t0) fun t69=>
   obind (z27 0 t69) fun t70=>
   callN (call 73 [t70] h_29) fun r71 h_33=>
   obind (z146 r71) fun t71=>
   obind (z53 t0) fun t72=>
   obind (z27 2 t72) fun t73=>
   obind (z22 h_33 2 t71 t73) fun h_38=>
   obind (z53 t0) fun t75=>
   obind (z27 4 t75) fun t76=>
   obind (z22 h_38 1 (AV.cells AV.nsl) t76) fun h_42=>
   some (.ret (.tup []),h_42)) fun k28=>
  ifB t35
  (
   obind (z53 t0) fun t37=>
   obind (z27 4 t37) fun t38=>
   obind (zc h_25 t38) fun v39=>
   obind (z150 3 v39 t14) fun t41=>
   obind (z2c h_25 3 t41) fun t42=>
   lett (newH h_25 124 [.int .i64 0,.str 0 0,.int .i64 0]) fun h_50=>
   obind (z22 h_50 3 t42 (z13 h_25)) fun h_52=>
   obind (zc h_52 (AV.ptr (AHeap.next h_25) 0)) fun v44=>
   obind (z17 .i64 v44) fun t44=>
   lett ((t44:Int) == 0) fun (t45:Bool)=>
   lett (fun (t50:Bool) (h_58:AHeap)=>
    lett (fun (h_62:AHeap)=>
     k28 h_62) fun k61=>
    ifB t50
    (
     obind (zc h_58 (AV.ptr (AHeap.next h_25) 1)) fun v52=>
     obind (z20 v52) fun t52=>
     obind (zc h_58 (AV.ptr (AHeap.next h_25) 1)) fun v55=>
     obind (z20 v55) fun t55=>
     lett (IntKind.i64.wrap ((z3b t55) - 1)) fun (t57:Int)=>
     lett (if t57<t2 then t57 else t2) fun (t58:Int)=>
     obind (z43 t52 0 t58) fun t59=>
     obind (z22 h_58 1 [z5 t59] (AV.ptr (AHeap.next h_25) 1)) fun h_71=>
     obind (z53 t0) fun t62=>
     obind (z27 0 t62) fun t63=>
     obind (z2c h_71 3 (z13 h_25)) fun t64=>
     outK (z1df Try.prog h_71 101 1 [(0,.agg t64)]) fun v65 h_76=>
     callN (call 72 [t63,v65] h_76) fun _ h_78=>
     k61 h_78)
    (
     k61 h_58)) fun j50=>
   ifB t45
   (
    obind (zc h_52 (AV.ptr (AHeap.next h_25) 1)) fun v48=>
    obind (z20 v48) fun t48=>
    lett (!eqS t48 ([]:Bytes)) fun (t49:Bool)=>
    j50 t49 h_52)
   (
    j50 false h_52))
  (
   k28 h_25)) fun j35=>
 ifB t31
 (
  lett (decide (t2>0)) fun (t34:Bool)=>
  j35 t34 h_16)
 (
  j35 false h_16)
set_option maxHeartbeats 4000000 in
set_option maxRecDepth 20000 in
theorem z22d{call:z10}(hc:SaysAll Try.prog call){n:Nat}{t0:AV}{t1:Int}{t2:Int}{h:AHeap}{rR:ARes}{hR:AHeap}(hF:z98 call n t0 t1 t2 h=some (rR,hR)):Says Try.prog 49 [t0,.int .i64 t1,.int .i64 t2] h rR hR:=by
 unfold z98 at hF;refine sO Try.func49 fun w0 m0=>wW [(0,t0),(1,.int .i64 t1),(2,.int .i64 t2)] (oG fun n1=>W.r (oA 7 (.int .i64 t1) (oI 8 .i64 hF fun t8 hF=>oA 9 t0 (oC0 10 hF fun t10 hF=>oF 11 103 2 hF fun t11 hF=>oL 12 101 hF fun v12 hF=>oM 13 101 124 hF fun t13 hF=>oI 14 .i64 hF fun t14 hF=>oA 1 (.int .i64 t14) (oV [(0,t0),(1,.int .i64 t14),(2,.int .i64 t2)] (n1 (oG fun n8=>W.draw (by kernel_rfl) (hc.ok w0) (plan:=[0,1,2,3,4,5,6,7,8,9]) (by kernel_rfl) (by kernel_rfl) (by kernel_rfl) (WD.a 0 (some 15) t0 h ?_))))))));obtain⟨t16,e9,hF⟩:=z4 hF;refine WD.b 0 (some 16) t16 h (z2b (h:=h) e9) ?_;obtain⟨t17,e10,hF⟩:=z4 hF;refine WD.b 0 (some 17) t17 h (z15 (P:=Try.prog) (h:=h) (s:=103) (f:=0) (by kernel_rfl) e10) (WD.a 0 (some 18) t0 h ?_);obtain⟨t19,e11,hF⟩:=z4 hF;refine WD.b 0 (some 19) t19 h (z2b (h:=h) e11) ?_;obtain⟨t20,e12,hF⟩:=z4 hF;refine WD.b 0 (some 20) t20 h (z15 (P:=Try.prog) (h:=h) (s:=103) (f:=2) (by kernel_rfl) e12) ?_;obtain⟨v21,e13,hF⟩:=z4 hF;refine WD.b 1 (some 21) v21 h (z14 (P:=Try.prog) (h:=h) (t:=101) (by kernel_rfl) e13) (WD.a 0 (some 22) (.int .i64 t14) h ?_);obtain⟨v23,h_14,e15,hF⟩:=z1c hF;refine WD.b 0 (some 23) v23 h_14 e15 ?_;obtain⟨r24,h_16,e17,hF⟩:=z18 hF;refine WD.call (d:=(some 24)) (by kernel_rfl) (by kernel_rfl) (by kernel_rfl) e17 (k:=2) (by kernel_rfl) (fun _=>(by kernel_rfl)) (by decide) (WD.nil (gW [(0,t0),(1,.int .i64 t14),(2,.int .i64 t2)] (n8 (W.s (fun K18 n18 e18 q18 p18=>W.s (fun K19 n19 e19 q19 p19=>W.r (oA 25 (.int .i64 t14) (oA 26 t0 (oC0 27 hF fun t27 hF=>oF 28 103 2 hF fun t28 hF=>oL 29 101 hF fun v29 hF=>oM 30 101 124 hF fun t30 hF=>oB 31 hF fun t31 hF=>oA 32 (.bool t31) ?_)))))))));obtain⟨j35,e26,hF⟩:=z6 hF
 have J27:∀(t35:Bool) (h_25:AHeap),j35 t35 h_25=some (rR,hR)→WL Try.prog w0 m0 (Func.ntmps Try.f49) (Code.ops (y6 (y6 (y5 (y5 (z2a Try.f49)))))) 11 K19 [(0,t0),(1,.int .i64 t14),(2,.int .i64 t2),(35,.bool t35)] [] h_25:=by
  intro t35 h_25 hF;rw[e26] at hF;refine oV [(0,t0),(1,.int .i64 t14),(2,.int .i64 t2),(35,.bool t35)] (n19 ?_);obtain⟨k28,e28,hF⟩:=z6 hF
  have J28:∀(h_29:AHeap),k28 h_29=some (rR,hR)→Go w0 m0 (Func.ntmps Try.f49) (K18 .normal) [(0,t0)] [] h_29:=by
   intro h_29 hF;rw[e28] at hF;exact n18 (oG fun n30=>W.r (oA 67 t0 (oA 68 t0 (oC0 69 hF fun t69 hF=>oF 70 103 0 hF fun t70 hF=>oCa hc 71 hF fun t71 h_33 hF=>oC0 72 hF fun t72 hF=>oF 73 103 1 hF fun t73 hF=>oW 100 (.agg t71) hF fun h_38 hF=>oV [(0,t0)] (n30 (W.r (oA 74 t0 (oC0 75 hF fun t75 hF=>oF 76 103 2 hF fun t76 hF=>oW 101 AV.nsl hF fun h_42 hF=>oV [] (lY hF [] [] zd)))))))))
  cases t35 with
  |true=>
   refine oT hF fun hF=>oG fun n44=>W.r (oA 36 t0 (oC0 37 hF fun t37 hF=>oF 38 103 2 hF fun t38 hF=>oL 39 101 hF fun v39 hF=>oA 40 (.int .i64 t14) (oP 41 101 124 .i64 hF fun t41 hF=>oR 42 124 hF fun t42 hF=>oN 6 hF fun h_50 hF=>oW 124 (.agg t42) hF fun h_52 hF=>oV [(0,t0),(2,.int .i64 t2),(6,(z13 h_25))] (n44 (W.s (fun K54 n54 e54 q54 p54=>W.r (oA 43 (AV.ptr (AHeap.next h_25) 0) (oLi 44 122 hF fun t44 hF=>oB 45 hF fun t45 hF=>oA 46 (.bool t45) ?_))))))));obtain⟨j50,e59,hF⟩:=z6 hF
   have J60:∀(t50:Bool) (h_58:AHeap),j50 t50 h_58=some (rR,hR)→WL Try.prog w0 m0 (Func.ntmps Try.f49) (Code.ops (y6 (y5 (y6 (y5 (y6 (y5 (y5 (z2a Try.f49))))))))) 8 K54 [(0,t0),(2,.int .i64 t2),(6,(z13 h_25)),(50,.bool t50)] [] h_58:=by
    intro t50 h_58 hF;rw[e59] at hF;refine oV [(0,t0),(2,.int .i64 t2),(6,(z13 h_25)),(50,.bool t50)] (n54 ?_);obtain⟨k61,e61,hF⟩:=z6 hF
    have J61:∀(h_62:AHeap),k61 h_62=some (rR,hR)→Go w0 m0 (Func.ntmps Try.f49) (K18 .normal) [(0,t0)] [] h_62:=by
     intro h_62 hF;rw[e61] at hF;exact gW _ (J28 _ hF)
    cases t50 with
    |true=>
     refine oT hF fun hF=>oG fun n63=>W.r (oA 51 (AV.ptr (AHeap.next h_25) 1) (oLs 52 9 hF fun t52 hF=>oA 53 (.int .i64 t2) (oA 54 (AV.ptr (AHeap.next h_25) 1) (oLs 55 9 hF fun t55 hF=>oA 56 (.int .i64 (z3b t55)) (oI 57 .i64 hF fun t57 hF=>oI 58 .i64 hF fun t58 hF=>?_)))));obtain⟨t59,e70,hF⟩:=z4 hF;refine WL.b (some 59) (z5 t59) h_58 (z48 (P:=Try.prog) (h:=h_58) (t:=9) (A:=none) (B:=(some (.int .i64 t58))) (by kernel_rfl) (.inr ⟨rfl,rfl⟩) (.inl ⟨_,rfl⟩) e70) (oA 60 (AV.ptr (AHeap.next h_25) 1) (oW 9 (z5 t59) hF fun h_71 hF=>oV [(0,t0),(6,(z13 h_25))] (n63 (W.draw (by kernel_rfl) (hc.ok w0) (plan:=[0,1,2,3,4,5]) (by kernel_rfl) (by kernel_rfl) (by kernel_rfl) (WD.a 0 (some 61) t0 h_71 ?_)))));obtain⟨t62,e73,hF⟩:=z4 hF;refine WD.b 0 (some 62) t62 h_71 (z2b (h:=h_71) e73) ?_;obtain⟨t63,e74,hF⟩:=z4 hF;refine WD.b 0 (some 63) t63 h_71 (z15 (P:=Try.prog) (h:=h_71) (s:=103) (f:=0) (by kernel_rfl) e74) ?_;obtain⟨t64,e75,hF⟩:=z4 hF;refine WD.b 1 (some 64) (.agg t64) h_71 (z64 (P:=Try.prog) (h:=h_71) (t:=124) (by kernel_rfl) (by kernel_rfl) e75) ?_;obtain⟨v65,h_76,e77,hF⟩:=z1c hF;refine WD.val (d:=(some 65)) (v:=v65) (h':=h_76) (by kernel_rfl) (by kernel_rfl) (Eq.trans (by kernel_rfl) e77) (k:=2) (by kernel_rfl) (fun _=>(by kernel_rfl)) (by decide) ?_;obtain⟨r66,h_78,e79,hF⟩:=z18 hF;exact WD.call (d:=(some 66)) (by kernel_rfl) (by kernel_rfl) (by kernel_rfl) e79 (k:=2) (by kernel_rfl) (fun _=>(by kernel_rfl)) (by decide) (WD.nil (gW [(0,t0)] (gW _ (J61 _ hF))))
    |false=>
     exact oU hF fun hF=>oZ (gW _ (J61 _ hF))
   cases t45 with
   |true=>
    replace hF:=z4f hF
    exact oA 47 (AV.ptr (AHeap.next h_25) 1) (oLs 48 9 hF fun t48 hF=>oB 49 hF fun t49 hF=>oA 50 (.bool t49) (lW _ (J60 _ _ hF)))
   |false=>
    replace hF:=z50 hF
    exact WL.o (some 47) (WL.o (some 48) (WL.o (some 49) (oA 50 (.bool false) (lW _ (J60 _ _ hF)))))
  |false=>
   exact oU hF fun hF=>oZ (gW _ (J28 _ hF))
 cases t31 with
 |true=>
  replace hF:=z4f hF
  exact oA 33 (.int .i64 t2) (oB 34 hF fun t34 hF=>oA 35 (.bool t34) (lW _ (J27 _ _ hF)))
 |false=>
  replace hF:=z50 hF
  exact WL.o (some 33) (WL.o (some 34) (oA 35 (.bool false) (lW _ (J27 _ _ hF))))
noncomputable def z6a(call:z10)(_:Nat)(t0:AV)(h:AHeap):R:=
 lett (newH h 100 [.bool false,.nsl]) fun h_2=>
 obind (z53 t0) fun t4=>
 obind (z27 0 t4) fun t5=>
 obind (zc h_2 t5) fun v6=>
 obind (z33 v6) fun t6=>
 obind (z53 t0) fun t8=>
 obind (z27 1 t8) fun t9=>
 obind (zc h_2 t9) fun v10=>
 callN (call 86 [v10] h_2) fun r11 h_12=>
 chk (true&&(z86 Try.prog h_12 4 t5 (.bool t6)&&true))<|
 obind (z45d Try.prog 100 [(0,.bool t6),(1,r11)]) fun t12=>
 obind (z22 h_12 2 t12 (z13 h)) fun h_16=>
 obind (z2c h_16 2 (z13 h)) fun w2=>
 some (.ret (.agg w2),h_16)
set_option maxHeartbeats 4000000 in
set_option maxRecDepth 20000 in
theorem z1dd{call:z10}(hc:SaysAll Try.prog call){n:Nat}{t0:AV}{h:AHeap}{rR:ARes}{hR:AHeap}(hF:z6a call n t0 h=some (rR,hR)):Says Try.prog 73 [t0] h rR hR:=by
 unfold z6a at hF;refine sO Try.func73 fun w0 m0=>wW [(0,t0)] (oG fun n1=>W.r (oN 2 hF fun h_2 hF=>oV [(0,t0),(2,(z13 h))] (n1 (oG fun n4=>W.draw (by kernel_rfl) (hc.ok w0) (plan:=[0,1,2,3,4,5,6,7,8,9,10]) (by kernel_rfl) (by kernel_rfl) (by kernel_rfl) (WD.a 0 (some 3) t0 h_2 ?_)))));obtain⟨t4,e5,hF⟩:=z4 hF;refine WD.b 0 (some 4) t4 h_2 (z2b (h:=h_2) e5) ?_;obtain⟨t5,e6,hF⟩:=z4 hF;refine WD.b 0 (some 5) t5 h_2 (z15 (P:=Try.prog) (h:=h_2) (s:=100) (f:=0) (by kernel_rfl) e6) ?_
 replace hF:=z4 hF;obtain⟨v6,e7,hF⟩:=hF
 replace hF:=z4 hF;obtain⟨t6,c8,hF⟩:=hF
 have c8:=z24 c8;subst c8;refine WD.b 1 (some 6) (.bool t6) h_2 (z14 (P:=Try.prog) (h:=h_2) (t:=4) (by kernel_rfl) e7) (WD.a 0 (some 7) t0 h_2 ?_);obtain⟨t8,e9,hF⟩:=z4 hF;refine WD.b 0 (some 8) t8 h_2 (z2b (h:=h_2) e9) ?_;obtain⟨t9,e10,hF⟩:=z4 hF;refine WD.b 0 (some 9) t9 h_2 (z15 (P:=Try.prog) (h:=h_2) (s:=100) (f:=1) (by kernel_rfl) e10) ?_;obtain⟨v10,e11,hF⟩:=z4 hF;refine WD.b 1 (some 10) v10 h_2 (z14 (P:=Try.prog) (h:=h_2) (t:=46) (by kernel_rfl) e11) ?_;obtain⟨r11,h_12,e13,hF⟩:=z18 hF;obtain⟨k14,hF⟩:=z74 hF;refine WD.call (d:=(some 11)) (by kernel_rfl) (by kernel_rfl) (by kernel_rfl) e13 (k:=2) (by kernel_rfl) (fun _=>(Eq.trans (by kernel_rfl) k14)) (by decide) ?_;obtain⟨t12,e15,hF⟩:=z4 hF;refine WD.val (d:=(some 12)) (v:=.agg t12) (h':=h_12) (by kernel_rfl) (by kernel_rfl) (z32c (by kernel_rfl) e15) (k:=0) (by kernel_rfl) (fun e=>absurd e (by decide)) (by decide) ?_;obtain⟨h_16,e17,hF⟩:=z4 hF;refine WD.eff (h':=h_16) (by kernel_rfl) (by kernel_rfl) (Eq.trans (by kernel_rfl) (z55 (P:=Try.prog) (h:=h_12) (t:=100) (v:=(.agg t12)) (by kernel_rfl) (by kernel_rfl) e17)) (k:=2) (by kernel_rfl) (fun _=>(by kernel_rfl)) (by decide) (WD.nil (gW [(2,(z13 h))] (n4 (oY ?_))));obtain⟨w2,e18,hF⟩:=z4 hF;exact lZ hF [.cell 2 100] [.agg w2] (rY e18 zd)
noncomputable def z3a(_:z10)(_:Nat)(t0:AV)(h:AHeap):R:=outK (z75 Try.prog h .eql 46 true (some t0) (some AV.nsl)) fun v4 h_4=>obind (z33 v4) fun t4=>ifB t4 (some (.ret (AV.nsl),h_4)) (outK (z1df Try.prog h_4 46 0 []) fun v5 h_9=>outK (z34 Try.prog h_9 46 46 v5 t0) fun v7 h_11=>some (.ret (v7),h_11))
set_option maxHeartbeats 4000000 in
set_option maxRecDepth 20000 in
theorem z13f{call:z10}(_:SaysAll Try.prog call){n:Nat}{t0:AV}{h:AHeap}{rR:ARes}{hR:AHeap}(hF:z3a call n t0 h=some (rR,hR)):Says Try.prog 86 [t0] h rR hR:=by
 unfold z3a at hF;refine sO Try.func86 fun w0 m0=>wW [(0,t0)] (oG fun n1=>W.r (oA 2 AV.nsl (oV [(0,t0)] (n1 (oH fun n2 q2=>oG fun n3=>W.r (oA 3 t0 ?_))))))
 replace hF:=z1c hF;obtain⟨v4,h_4,e5,hF⟩:=hF
 replace hF:=z4 hF;obtain⟨t4,c6,hF⟩:=hF
 have c6:=z24 c6;subst c6;refine WL.b (some 4) (.bool t4) h_4 e5 (oV [(0,t0),(4,.bool t4)] (n3 ?_))
 cases t4 with
 |true=>
  exact oT hF fun hF=>oG fun n7=>W.r (oA 2 AV.nsl (oV [(2,AV.nsl)] (n7 (oY (q2 (lZ hF [.tmp 2] [AV.nsl] (rT zd)))))))
 |false=>
  exact oU hF fun hF=>oZ (n2 (oG fun n8=>W.r (oK 5 hF fun v5 h_9 hF=>oA 6 t0 (oK 7 hF fun v7 h_11 hF=>oA 2 v7 (oV [(2,v7)] (n8 (oY (lZ hF [.tmp 2] [v7] (rT zd)))))))))
noncomputable def z130(t1:Bytes)(h:AHeap)(k13:Int→AHeap→R)(self:Int→Int→AHeap→R)(t6_18:Int)(t13:Int)(h_19:AHeap):R:=lett (decide (t13<(z3b t1))) fun (t14:Bool)=>ifB t14 (obind (z3c1 t1 t13) fun t19=>lett (IntKind.u32.wrap t19) fun (t20:Int)=>lett (xorI .u32 t6_18 t20) fun (t21:Int)=>obind (shrI .u32 t21 4) fun t23=>obind (remI .u32 t21 16) fun t25=>obind (z169 16 1 (z13 h) t25) fun t26=>obind (zc h_19 t26) fun v27=>obind (z17 .u32 v27) fun t27=>lett (xorI .u32 t23 t27) fun (t28:Int)=>obind (shrI .u32 t28 4) fun t30=>obind (remI .u32 t28 16) fun t32=>obind (z169 16 1 (z13 h) t32) fun t33=>obind (zc h_19 t33) fun v34=>obind (z17 .u32 v34) fun t34=>lett (xorI .u32 t30 t34) fun (t35:Int)=>lett (IntKind.i64.wrap (t13+1)) fun (t36:Int)=>self t35 t36 h_19) (k13 t6_18 h_19)
noncomputable def z154(t1:Bytes)(h:AHeap)(k13:Int→AHeap→R):Nat→Int→Int→AHeap→R:=z122 (fun _ _ _=>none) (z130 t1 h k13)
theorem z18a(t1:Bytes)(h:AHeap)(k13:Int→AHeap→R)(m:Nat):z154 t1 h k13 (m+1)=z130 t1 h k13 (z154 t1 h k13 m):=rfl
noncomputable def z1c3(_:z10)(n:Nat)(t0:Int)(t1:Bytes)(h:AHeap):R:=obind (z45d Try.prog 177 [(0,.int .u32 0),(1,.int .u32 274646895),(2,.int .u32 549293790),(3,.int .u32 820201905),(4,.int .u32 1098587580),(5,.int .u32 1361435347),(6,.int .u32 1640403810),(7,.int .u32 1905808397),(8,.int .u32 2197175160),(9,.int .u32 2460548119),(10,.int .u32 2722870694),(11,.int .u32 2987750089),(12,.int .u32 3280807620),(13,.int .u32 3553878443),(14,.int .u32 3811616794),(15,.int .u32 4084100981)]) fun t8=>lett (newH h 177 [.int .u32 0,.int .u32 0,.int .u32 0,.int .u32 0,.int .u32 0,.int .u32 0,.int .u32 0,.int .u32 0,.int .u32 0,.int .u32 0,.int .u32 0,.int .u32 0,.int .u32 0,.int .u32 0,.int .u32 0,.int .u32 0]) fun h_4=>obind (z22 h_4 16 t8 (z13 h)) fun h_6=>lett (comI .u32 t0) fun (t10:Int)=>lett (fun (t6:Int) (h_14:AHeap)=>lett (comI .u32 t6) fun (t38:Int)=>some (.ret (.int .u32 t38),h_14)) fun k13=>z154 t1 h k13 n t10 0 h_6
set_option maxHeartbeats 4000000 in
set_option maxRecDepth 20000 in
theorem z3f0{call:z10}(_:SaysAll Try.prog call){n:Nat}{t0:Int}{t1:Bytes}{h:AHeap}{rR:ARes}{hR:AHeap}(hF:z1c3 call n t0 t1 h=some (rR,hR)):Says Try.prog 100 [.int .u32 t0,z5 t1] h rR hR:=by
 unfold z1c3 at hF;refine sO Try.func100 fun w0 m0=>wW [(0,.int .u32 t0),(1,z5 t1)] (oG fun n1=>W.r (oA 4 (.int .u32 0) (oV [(0,.int .u32 t0),(1,z5 t1)] (n1 (oG fun n2=>W.r ?_)))));obtain⟨t8,e3,hF⟩:=z4 hF;refine WL.val (d:=(some 8)) (v:=.agg t8) (h':=h) (by kernel_rfl) (by kernel_rfl) (z32c (by kernel_rfl) e3) (oN 5 hF fun h_4 hF=>oW 177 (.agg t8) hF fun h_6 hF=>oV [(0,.int .u32 t0),(1,z5 t1),(5,(z13 h))] (n2 (oG fun n8=>W.r (oA 9 (.int .u32 t0) (oI 10 .u32 hF fun t10 hF=>oA 6 (.int .u32 t10) (oV [(1,z5 t1),(5,(z13 h)),(6,.int .u32 t10)] (n8 (W.s (fun K10 n10 e10 q10 p10=>oG fun n11=>W.r (oA 11 (z5 t1) (oA 12 (.int .i64 (z3b t1)) (oA 13 (.int .i64 0) (oV [(1,z5 t1),(5,(z13 h)),(6,.int .u32 t10),(12,.int .i64 (z3b t1)),(13,.int .i64 0)] (n11 ?_))))))))))))));obtain⟨k13,e13,hF⟩:=z6 hF
 have J13:∀(t6:Int) (h_14:AHeap),k13 t6 h_14=some (rR,hR)→Go w0 m0 (Func.ntmps Try.f100) (K10 .normal) [(6,.int .u32 t6)] [] h_14:=by
  intro t6 h_14 hF;rw[e13] at hF;exact n10 (oG fun n15=>W.r (oA 37 (.int .u32 t6) (oI 38 .u32 hF fun t38 hF=>oA 4 (.int .u32 t38) (oV [(4,.int .u32 t38)] (n15 (oY (lZ hF [.tmp 4] [.int .u32 t38] (rT zd))))))))
 refine W.blockK (by kernel_rfl) (fun K12 n12 s12 o12 q12 p12=>W.loopK (by kernel_rfl) (fun I17 K17 b17 n17 e17 q17 p17=>?_))
 have L17:∀(m:Nat) (t6_18:Int) (t13:Int) (h_19:AHeap),z154 t1 h k13 m t6_18 t13 h_19=some (rR,hR)→Go w0 m0 (Func.ntmps Try.f100) I17 [(1,z5 t1),(5,(z13 h)),(6,.int .u32 t6_18),(12,.int .i64 (z3b t1)),(13,.int .i64 t13)] [] h_19:=by
  intro m
  induction m with
  |zero=>intro t6_18 t13 h_19 hF;cases hF
  |succ m ih17=>
   intro t6_18 t13 h_19 hF;rw[z18a] at hF;unfold z130 at hF;refine b17 (oG fun n20=>W.r (oB 14 hF fun t14 hF=>oV [(1,z5 t1),(5,(z13 h)),(6,.int .u32 t6_18),(12,.int .i64 (z3b t1)),(13,.int .i64 t13),(14,.bool t14)] (n20 (W.s (fun K22 n22 e22 q22 p22=>?_)))))
   cases t14 with
   |true=>
    refine oT hF fun hF=>oZ (n22 (oG fun n23=>W.blockK (by kernel_rfl) (fun K24 n24 s24 o24 q24 p24=>oG fun n25=>W.r (oA 15 (.int .i64 t13) (oA 7 (.int .i64 t13) (oV [(1,z5 t1),(5,(z13 h)),(6,.int .u32 t6_18),(7,.int .i64 t13),(12,.int .i64 (z3b t1)),(13,.int .i64 t13)] (n25 (oG fun n26=>W.r (oA 16 (.int .u32 t6_18) (oA 17 (z5 t1) (oA 18 (.int .i64 t13) (oX 19 9 .i64 hF fun t19 hF=>oI 20 .u32 hF fun t20 hF=>oI 21 .u32 hF fun t21 hF=>oA 6 (.int .u32 t21) (oV [(1,z5 t1),(5,(z13 h)),(6,.int .u32 t21),(12,.int .i64 (z3b t1)),(13,.int .i64 t13)] (n26 (oG fun n30=>W.r (oA 22 (.int .u32 t21) ?_))))))))))))))));obtain⟨t23,e31,hF⟩:=z4 hF;refine WL.b (some 23) (.int .u32 t23) h_19 (z3f2 (P:=Try.prog) (h:=h_19) (t:=128) (k':=.u64) (lit:=true) e31) (oA 24 (.int .u32 t21) ?_);obtain⟨t25,e32,hF⟩:=z4 hF;refine WL.b (some 25) (.int .u32 t25) h_19 (z2a5 (P:=Try.prog) (h:=h_19) (t:=128) (lit:=true) e32) (oQ 26 177 128 .u32 hF fun t26 hF=>oLi 27 128 hF fun t27 hF=>oI 28 .u32 hF fun t28 hF=>oA 6 (.int .u32 t28) (oV [(1,z5 t1),(5,(z13 h)),(6,.int .u32 t28),(12,.int .i64 (z3b t1)),(13,.int .i64 t13)] (n30 (W.r (oA 29 (.int .u32 t28) ?_)))));obtain⟨t30,e37,hF⟩:=z4 hF;refine WL.b (some 30) (.int .u32 t30) h_19 (z3f2 (P:=Try.prog) (h:=h_19) (t:=128) (k':=.u64) (lit:=true) e37) (oA 31 (.int .u32 t28) ?_);obtain⟨t32,e38,hF⟩:=z4 hF;exact WL.b (some 32) (.int .u32 t32) h_19 (z2a5 (P:=Try.prog) (h:=h_19) (t:=128) (lit:=true) e38) (oQ 33 177 128 .u32 hF fun t33 hF=>oLi 34 128 hF fun t34 hF=>oI 35 .u32 hF fun t35 hF=>oA 6 (.int .u32 t35) (oV [(1,z5 t1),(5,(z13 h)),(6,.int .u32 t35),(12,.int .i64 (z3b t1)),(13,.int .i64 t13)] (n24 (n23 (W.r (oI 36 .i64 hF fun t36 hF=>oA 13 (.int .i64 t36) (oV [(1,z5 t1),(5,(z13 h)),(6,.int .u32 t35),(12,.int .i64 (z3b t1)),(13,.int .i64 t36)] (n17 (gW _ (ih17 _ _ _ hF))))))))))
   |false=>
    exact oU hF fun hF=>W.exit (by kernel_rfl) (e22 (e17 (s12 (by kernel_rfl) (gW _ (J13 _ _ hF)))))
 exact gW _ (L17 _ _ _ _ hF)
noncomputable def z300(call:z10)(_:Nat)(t0:Bytes)(h:AHeap):R:=callN (call 100 [.int .u32 0,z5 t0] h) fun r4 h_3=>obind (z17 .u32 r4) fun t4=>some (.ret (.int .u32 t4),h_3)
set_option maxHeartbeats 4000000 in
set_option maxRecDepth 20000 in
theorem z4a2{call:z10}(hc:SaysAll Try.prog call){n:Nat}{t0:Bytes}{h:AHeap}{rR:ARes}{hR:AHeap}(hF:z300 call n t0 h=some (rR,hR)):Says Try.prog 96 [z5 t0] h rR hR:=by
 unfold z300 at hF;exact sO Try.func96 fun w0 m0=>wW [(0,z5 t0)] (oG fun n1=>W.r (oA 2 (.int .u32 0) (oV [(0,z5 t0)] (n1 (oG fun n2=>W.r (oA 3 (z5 t0) (oCi hc 4 hF fun t4 h_3 hF=>oA 2 (.int .u32 t4) (oV [(2,.int .u32 t4)] (n2 (oY (lZ hF [.tmp 2] [.int .u32 t4] (rT zd))))))))))))
noncomputable def zf5(call:z10)(_:Nat)(t0:Bytes)(h:AHeap):R:=callN (call 96 [z5 t0] h) fun r5 h_3=>obind (z17 .u32 r5) fun t5=>callN (call 90 [.int .u32 t5] h_3) fun r6 h_6=>obind (z20 r6) fun t6=>obind (z37b t0 t6) fun t7=>some (.ret (z5 t7),h_6)
set_option maxHeartbeats 4000000 in
set_option maxRecDepth 20000 in
theorem z2c0{call:z10}(hc:SaysAll Try.prog call){n:Nat}{t0:Bytes}{h:AHeap}{rR:ARes}{hR:AHeap}(hF:zf5 call n t0 h=some (rR,hR)):Says Try.prog 89 [z5 t0] h rR hR:=by
 unfold zf5 at hF;refine sO Try.func89 fun w0 m0=>wW [(0,z5 t0)] (oG fun n1=>W.r (oA 2 (z5 ([]:Bytes)) (oV [(0,z5 t0)] (n1 (oG fun n2=>W.r (oA 3 (z5 t0) (oA 4 (z5 t0) (oCi hc 5 hF fun t5 h_3 hF=>oCs hc 6 hF fun t6 h_6 hF=>?_))))))));obtain⟨t7,e9,hF⟩:=z4 hF;exact WL.b (some 7) (z5 t7) h_6 (z110 (P:=Try.prog) (h:=h_6) (t:=9) (lit:=false) e9) (oA 2 (z5 t7) (oV [(2,z5 t7)] (n2 (oY (lZ hF [.tmp 2] [z5 t7] (rT zd))))))
noncomputable def z123(call:z10)(_:Nat)(t0:Bytes)(h:AHeap):R:=lett (IntKind.i64.wrap ((z3b t0) - 4)) fun (t6:Int)=>obind (z43 t0 t6 (z3b t0)) fun t9=>obind (z43 t0 0 t6) fun t14=>callN (call 78 [z5 t9] h) fun r10 h_7=>callN (call 98 [r10] h_7) fun r11 h_9=>obind (z17 .u32 r11) fun t11=>callN (call 96 [z5 t14] h_9) fun r15 h_12=>obind (z17 .u32 r15) fun t15=>lett ((t11:Int) == t15) fun (t16:Bool)=>some (.ret (.bool t16),h_12)
set_option maxHeartbeats 4000000 in
set_option maxRecDepth 20000 in
theorem z2f7{call:z10}(hc:SaysAll Try.prog call){n:Nat}{t0:Bytes}{h:AHeap}{rR:ARes}{hR:AHeap}(hF:z123 call n t0 h=some (rR,hR)):Says Try.prog 99 [z5 t0] h rR hR:=by
 unfold z123 at hF;refine sO Try.func99 fun w0 m0=>wW [(0,z5 t0)] (oG fun n1=>W.r (oA 2 (.bool false) (oV [(0,z5 t0)] (n1 (oG fun n2=>W.r (oA 4 (z5 t0) (oA 5 (.int .i64 (z3b t0)) (oI 6 .i64 hF fun t6 hF=>oA 3 (.int .i64 t6) (oV [(0,z5 t0),(3,.int .i64 t6)] (n2 (oG fun n4=>W.draw (by kernel_rfl) (hc.ok w0) (plan:=[0,1,2,5,6,7,3,4,8,9,10]) (by kernel_rfl) (by kernel_rfl) (by kernel_rfl) (WD.a 0 (some 7) (z5 t0) h (WD.a 0 (some 8) (.int .i64 t6) h ?_)))))))))))));obtain⟨t9,e5,hF⟩:=z4 hF;refine WD.b 0 (some 9) (z5 t9) h (z48 (P:=Try.prog) (h:=h) (t:=9) (A:=(some (.int .i64 t6))) (B:=none) (by kernel_rfl) (.inl ⟨_,rfl⟩) (.inr ⟨rfl,rfl⟩) e5) (WD.a 0 (some 12) (z5 t0) h (WD.a 0 (some 13) (.int .i64 t6) h ?_));obtain⟨t14,e6,hF⟩:=z4 hF;refine WD.b 0 (some 14) (z5 t14) h (z48 (P:=Try.prog) (h:=h) (t:=9) (A:=none) (B:=(some (.int .i64 t6))) (by kernel_rfl) (.inr ⟨rfl,rfl⟩) (.inl ⟨_,rfl⟩) e6) ?_;obtain⟨r10,h_7,e8,hF⟩:=z18 hF;refine WD.call (d:=(some 10)) (by kernel_rfl) (by kernel_rfl) (by kernel_rfl) e8 (k:=2) (by kernel_rfl) (fun _=>(by kernel_rfl)) (by decide) ?_
 replace hF:=z18 hF;obtain⟨r11,h_9,e10,hF⟩:=hF
 replace hF:=z4 hF;obtain⟨t11,c11,hF⟩:=hF
 have c11:=z1a c11;subst c11;refine WD.call (d:=(some 11)) (by kernel_rfl) (by kernel_rfl) (by kernel_rfl) e10 (k:=2) (by kernel_rfl) (fun _=>(by kernel_rfl)) (by decide) ?_
 replace hF:=z18 hF;obtain⟨r15,h_12,e13,hF⟩:=hF
 replace hF:=z4 hF;obtain⟨t15,c14,hF⟩:=hF
 have c14:=z1a c14;subst c14;refine WD.call (d:=(some 15)) (by kernel_rfl) (by kernel_rfl) (by kernel_rfl) e13 (k:=2) (by kernel_rfl) (fun _=>(by kernel_rfl)) (by decide) ?_;obtain⟨t16,e15,hF⟩:=z6 hF;exact WD.val (d:=(some 16)) (v:=.bool t16) (h':=h_12) (by kernel_rfl) (by kernel_rfl) (z38 AV.bool e15 (by kernel_rfl)) (k:=0) (by kernel_rfl) (fun e=>absurd e (by decide)) (by decide) (WD.a 0 (some 2) (.bool t16) h_12 (WD.nil (gW [(2,.bool t16)] (n4 (oY (lZ hF [.tmp 2] [.bool t16] (rT zd)))))))
noncomputable def z182(call:z10)(_:Nat)(t0:Bytes)(h:AHeap):R:=lett (decide ((z3b t0)>4096)) fun (t6:Bool)=>ifB t6 (some (.ret (.tup [z5 ([]:Bytes),.int .i64 3]),h)) (lett (IntKind.u32.wrap (z3b t0)) fun (t9:Int)=>callN (call 90 [.int .u32 t9] h) fun r10 h_8=>obind (z20 r10) fun t10=>callN (call 89 [z5 t10] h_8) fun r11 h_11=>obind (z20 r11) fun t11=>callN (call 89 [z5 t0] h_11) fun r13 h_14=>obind (z20 r13) fun t13=>obind (z37b t11 t13) fun t14=>some (.ret (.tup [z5 t14,.int .i64 0]),h_14))
set_option maxHeartbeats 4000000 in
set_option maxRecDepth 20000 in
theorem z3c8{call:z10}(hc:SaysAll Try.prog call){n:Nat}{t0:Bytes}{h:AHeap}{rR:ARes}{hR:AHeap}(hF:z182 call n t0 h=some (rR,hR)):Says Try.prog 82 [z5 t0] h rR hR:=by
 unfold z182 at hF;refine sO Try.func82 fun w0 m0=>wW [(0,z5 t0)] (oG fun n1=>W.r (oA 2 (z5 ([]:Bytes)) (oA 3 (.int .i64 0) (oV [(0,z5 t0)] (n1 (oH fun n2 q2=>oG fun n3=>W.r (oA 4 (z5 t0) (oA 5 (.int .i64 (z3b t0)) (oB 6 hF fun t6 hF=>oV [(0,z5 t0),(6,.bool t6)] (n3 ?_))))))))))
 cases t6 with
 |true=>
  exact oT hF fun hF=>oG fun n5=>W.r (oA 2 (z5 ([]:Bytes)) (oA 3 (.int .i64 3) (oV [(2,z5 ([]:Bytes)),(3,.int .i64 3)] (n5 (oY (q2 (lZ hF [.tmp 2,.tmp 3] [z5 ([]:Bytes),.int .i64 3] (rT (rT zd)))))))))
 |false=>
  refine oU hF fun hF=>oZ (n2 (oG fun n6=>W.r (oA 7 (z5 t0) (oA 8 (.int .i64 (z3b t0)) (oI 9 .u32 hF fun t9 hF=>oCs hc 10 hF fun t10 h_8 hF=>oCs hc 11 hF fun t11 h_11 hF=>oA 12 (z5 t0) (oCs hc 13 hF fun t13 h_14 hF=>?_))))));obtain⟨t14,e17,hF⟩:=z4 hF;exact WL.b (some 14) (z5 t14) h_14 (z110 (P:=Try.prog) (h:=h_14) (t:=9) (lit:=false) e17) (oA 2 (z5 t14) (oA 3 (.int .i64 0) (oV [(2,z5 t14),(3,.int .i64 0)] (n6 (oY (lZ hF [.tmp 2,.tmp 3] [z5 t14,.int .i64 0] (rT (rT zd))))))))
noncomputable def z151(call:z10)(_:Nat)(t0:Bytes)(h:AHeap):R:=lett (decide ((z3b t0)<8)) fun (t9:Bool)=>ifB t9 (some (.ret (.tup [z5 ([]:Bytes),.int .i64 0,.int .i64 30]),h)) (callN (call 78 [z5 t0] h) fun r11 h_7=>callN (call 98 [r11] h_7) fun r12 h_9=>obind (z17 .u32 r12) fun t12=>lett (decide (t12>4096)) fun (t14:Bool)=>lett (fun (t20:Bool) (h_15:AHeap)=>ifB t20 (some (.ret (.tup [z5 ([]:Bytes),.int .i64 0,.int .i64 7]),h_15)) (lett (IntKind.i64.wrap t12) fun (t22:Int)=>lett (IntKind.i64.wrap (8+t22)) fun (t23:Int)=>lett (IntKind.i64.wrap (t23+4)) fun (t24:Int)=>lett (decide ((z3b t0)<t24)) fun (t28:Bool)=>ifB t28 (some (.ret (.tup [z5 ([]:Bytes),.int .i64 0,.int .i64 30]),h_15)) (obind (z43 t0 8 t24) fun t31=>callN (call 99 [z5 t31] h_15) fun r32 h_30=>obind (z33 r32) fun t32=>lett (!t32) fun (t33:Bool)=>ifB t33 (some (.ret (.tup [z5 ([]:Bytes),.int .i64 0,.int .i64 7]),h_30)) (lett (IntKind.i64.wrap (t24 - 4)) fun (t36:Int)=>obind (z43 t0 8 t36) fun t37=>some (.ret (.tup [z5 t37,.int .i64 t24,.int .i64 0]),h_30))))) fun j20=>ifB t14 (j20 true h_9) (obind (z43 t0 0 8) fun t17=>callN (call 99 [z5 t17] h_9) fun r18 h_39=>obind (z33 r18) fun t18=>lett (!t18) fun (t19:Bool)=>j20 t19 h_39))
set_option maxHeartbeats 4000000 in
set_option maxRecDepth 20000 in
theorem z361{call:z10}(hc:SaysAll Try.prog call){n:Nat}{t0:Bytes}{h:AHeap}{rR:ARes}{hR:AHeap}(hF:z151 call n t0 h=some (rR,hR)):Says Try.prog 93 [z5 t0] h rR hR:=by
 unfold z151 at hF;refine sO Try.func93 fun w0 m0=>wW [(0,z5 t0)] (oG fun n1=>W.r (oA 2 (z5 ([]:Bytes)) (oA 3 (.int .i64 0) (oA 4 (.int .i64 0) (oV [(0,z5 t0)] (n1 (oH fun n2 q2=>oG fun n3=>W.r (oA 7 (z5 t0) (oA 8 (.int .i64 (z3b t0)) (oB 9 hF fun t9 hF=>oV [(0,z5 t0),(9,.bool t9)] (n3 ?_)))))))))))
 cases t9 with
 |true=>
  exact oT hF fun hF=>oG fun n5=>W.r (oA 2 (z5 ([]:Bytes)) (oA 3 (.int .i64 0) (oA 4 (.int .i64 30) (oV [(2,z5 ([]:Bytes)),(3,.int .i64 0),(4,.int .i64 30)] (n5 (oY (q2 (lZ hF [.tmp 2,.tmp 3,.tmp 4] [z5 ([]:Bytes),.int .i64 0,.int .i64 30] (rT (rT (rT zd)))))))))))
 |false=>
  refine oU hF fun hF=>oZ (n2 (oG fun n6=>W.r (oA 10 (z5 t0) (oC hc (some 11) hF fun r11 h_7 hF=>oCi hc 12 hF fun t12 h_9 hF=>oA 5 (.int .u32 t12) (oV [(0,z5 t0),(5,.int .u32 t12)] (n6 (oH fun n12 q12=>W.s (fun K13 n13 e13 q13 p13=>W.r (oA 13 (.int .u32 t12) (oB 14 hF fun t14 hF=>oA 15 (.bool t14) ?_))))))))));obtain⟨j20,e16,hF⟩:=z6 hF
  have J17:∀(t20:Bool) (h_15:AHeap),j20 t20 h_15=some (rR,hR)→WL Try.prog w0 m0 (Func.ntmps Try.f93) (Code.ops (y6 (y6 (y5 (y5 (y5 (z2a Try.f93))))))) 8 K13 [(0,z5 t0),(5,.int .u32 t12),(20,.bool t20)] [] h_15:=by
   intro t20 h_15 hF;rw[e16] at hF;refine oV [(0,z5 t0),(5,.int .u32 t12),(20,.bool t20)] (n13 ?_)
   cases t20 with
   |true=>
    exact oT hF fun hF=>oG fun n18=>W.r (oA 2 (z5 ([]:Bytes)) (oA 3 (.int .i64 0) (oA 4 (.int .i64 7) (oV [(2,z5 ([]:Bytes)),(3,.int .i64 0),(4,.int .i64 7)] (n18 (oY (q12 (lZ hF [.tmp 2,.tmp 3,.tmp 4] [z5 ([]:Bytes),.int .i64 0,.int .i64 7] (rT (rT (rT zd)))))))))))
   |false=>
    refine oU hF fun hF=>oZ (n12 (oG fun n19=>W.r (oA 21 (.int .u32 t12) (oI 22 .i64 hF fun t22 hF=>oI 23 .i64 hF fun t23 hF=>oI 24 .i64 hF fun t24 hF=>oA 6 (.int .i64 t24) (oV [(0,z5 t0),(6,.int .i64 t24)] (n19 (oH fun n23 q23=>oG fun n24=>W.r (oA 25 (z5 t0) (oA 26 (.int .i64 (z3b t0)) (oA 27 (.int .i64 t24) (oB 28 hF fun t28 hF=>oV [(0,z5 t0),(6,.int .i64 t24),(28,.bool t28)] (n24 ?_))))))))))))
    cases t28 with
    |true=>
     exact oT hF fun hF=>oG fun n26=>W.r (oA 2 (z5 ([]:Bytes)) (oA 3 (.int .i64 0) (oA 4 (.int .i64 30) (oV [(2,z5 ([]:Bytes)),(3,.int .i64 0),(4,.int .i64 30)] (n26 (oY (q23 (lZ hF [.tmp 2,.tmp 3,.tmp 4] [z5 ([]:Bytes),.int .i64 0,.int .i64 30] (rT (rT (rT zd)))))))))))
    |false=>
     refine oU hF fun hF=>oZ (n23 (oH fun n27 q27=>oG fun n28=>W.r (oA 29 (z5 t0) (oA 30 (.int .i64 t24) ?_))));obtain⟨t31,e29,hF⟩:=z4 hF;refine WL.b (some 31) (z5 t31) h_15 (z48 (P:=Try.prog) (h:=h_15) (t:=9) (A:=(some (.int .i64 8))) (B:=(some (.int .i64 t24))) (by kernel_rfl) (.inl ⟨_,rfl⟩) (.inl ⟨_,rfl⟩) e29) (oCb hc 32 hF fun t32 h_30 hF=>oB 33 hF fun t33 hF=>oV [(0,z5 t0),(6,.int .i64 t24),(33,.bool t33)] (n28 ?_))
     cases t33 with
     |true=>
      exact oT hF fun hF=>oG fun n34=>W.r (oA 2 (z5 ([]:Bytes)) (oA 3 (.int .i64 0) (oA 4 (.int .i64 7) (oV [(2,z5 ([]:Bytes)),(3,.int .i64 0),(4,.int .i64 7)] (n34 (oY (q27 (lZ hF [.tmp 2,.tmp 3,.tmp 4] [z5 ([]:Bytes),.int .i64 0,.int .i64 7] (rT (rT (rT zd)))))))))))
     |false=>
      refine oU hF fun hF=>oZ (n27 (oG fun n35=>W.r (oA 34 (z5 t0) (oA 35 (.int .i64 t24) (oI 36 .i64 hF fun t36 hF=>?_)))));obtain⟨t37,e37,hF⟩:=z4 hF;exact WL.b (some 37) (z5 t37) h_30 (z48 (P:=Try.prog) (h:=h_30) (t:=9) (A:=(some (.int .i64 8))) (B:=(some (.int .i64 t36))) (by kernel_rfl) (.inl ⟨_,rfl⟩) (.inl ⟨_,rfl⟩) e37) (oA 38 (.int .i64 t24) (oA 2 (z5 t37) (oA 3 (.int .i64 t24) (oA 4 (.int .i64 0) (oV [(2,z5 t37),(3,.int .i64 t24),(4,.int .i64 0)] (n35 (oY (lZ hF [.tmp 2,.tmp 3,.tmp 4] [z5 t37,.int .i64 t24,.int .i64 0] (rT (rT (rT zd)))))))))))
  cases t14 with
  |true=>
   replace hF:=z4f hF
   exact WL.o (some 16) (WL.o (some 17) (WL.o (some 18) (WL.o (some 19) (oA 20 (.bool true) (lW _ (J17 _ _ hF))))))
  |false=>
   replace hF:=z50 hF
   refine oA 16 (z5 t0) ?_;obtain⟨t17,e38,hF⟩:=z4 hF;exact WL.b (some 17) (z5 t17) h_9 (z48 (P:=Try.prog) (h:=h_9) (t:=9) (A:=none) (B:=(some (.int .i64 8))) (by kernel_rfl) (.inr ⟨rfl,rfl⟩) (.inl ⟨_,rfl⟩) e38) (oCb hc 18 hF fun t18 h_39 hF=>oB 19 hF fun t19 hF=>oA 20 (.bool t19) (lW _ (J17 _ _ hF)))
noncomputable def z183(_:z10)(_:Nat)(t0:Bytes)(h:AHeap):R:=lett (newH h 9 [z5 t0]) fun h_2=>some (.ret (AV.fn 92 [] [(z13 h)]),h_2)
set_option maxHeartbeats 4000000 in
set_option maxRecDepth 20000 in
theorem z3c9{call:z10}(_:SaysAll Try.prog call){n:Nat}{t0:Bytes}{h:AHeap}{rR:ARes}{hR:AHeap}(hF:z183 call n t0 h=some (rR,hR)):Says Try.prog 87 [z5 t0] h rR hR:=by
 unfold z183 at hF;exact sO Try.func87 fun w0 m0=>wW [(0,z5 t0)] (oG fun n1=>W.r (oN 1 hF fun h_2 hF=>oA 2 AV.nfn (oV [(1,(z13 h))] (n1 (oG fun n4=>W.r (oA 3 (AV.fn 92 [] [(z13 h)]) (oA 2 (AV.fn 92 [] [(z13 h)]) (oV [(2,(AV.fn 92 [] [(z13 h)]))] (n4 (oY (lZ hF [.tmp 2] [(AV.fn 92 [] [(z13 h)])] (rT zd))))))))))))
noncomputable def z1c1(call:z10)(_:Nat)(t0:Int)(h:AHeap):R:=lett (IntKind.u64.wrap t0) fun (t4:Int)=>callN (call 83 [.int .u64 t4,.int .i64 4] h) fun r5 h_4=>obind (z20 r5) fun t5=>some (.ret (z5 t5),h_4)
set_option maxHeartbeats 4000000 in
set_option maxRecDepth 20000 in
theorem z3e7{call:z10}(hc:SaysAll Try.prog call){n:Nat}{t0:Int}{h:AHeap}{rR:ARes}{hR:AHeap}(hF:z1c1 call n t0 h=some (rR,hR)):Says Try.prog 90 [.int .u32 t0] h rR hR:=by
 unfold z1c1 at hF;exact sO Try.func90 fun w0 m0=>wW [(0,.int .u32 t0)] (oG fun n1=>W.r (oA 2 (z5 ([]:Bytes)) (oV [(0,.int .u32 t0)] (n1 (oG fun n2=>W.r (oA 3 (.int .u32 t0) (oI 4 .u64 hF fun t4 hF=>oCs hc 5 hF fun t5 h_4 hF=>oA 2 (z5 t5) (oV [(2,z5 t5)] (n2 (oY (lZ hF [.tmp 2] [z5 t5] (rT zd))))))))))))
noncomputable def z1c0(call:z10)(_:Nat)(t0:Int)(h:AHeap):R:=callN (call 83 [.int .u64 t0,.int .i64 8] h) fun r4 h_3=>obind (z20 r4) fun t4=>some (.ret (z5 t4),h_3)
set_option maxHeartbeats 4000000 in
set_option maxRecDepth 20000 in
theorem z3e6{call:z10}(hc:SaysAll Try.prog call){n:Nat}{t0:Int}{h:AHeap}{rR:ARes}{hR:AHeap}(hF:z1c0 call n t0 h=some (rR,hR)):Says Try.prog 66 [.int .u64 t0] h rR hR:=by
 unfold z1c0 at hF;exact sO Try.func66 fun w0 m0=>wW [(0,.int .u64 t0)] (oG fun n1=>W.r (oA 2 (z5 ([]:Bytes)) (oV [(0,.int .u64 t0)] (n1 (oG fun n2=>W.r (oA 3 (.int .u64 t0) (oCs hc 4 hF fun t4 h_3 hF=>oA 2 (z5 t4) (oV [(2,z5 t4)] (n2 (oY (lZ hF [.tmp 2] [z5 t4] (rT zd))))))))))))
noncomputable def z1c2(_:z10)(_:Nat)(t0:Bytes)(h:AHeap):R:=outK (zd9 h 166 (some (.agg ([z5 t0,.int .i64 0,.int .i64 0,.int .i64 0]:List AV)))) fun v5 h_3=>some (.ret (v5),h_3)
set_option maxHeartbeats 4000000 in
set_option maxRecDepth 20000 in
theorem z3e8{call:z10}(_:SaysAll Try.prog call){n:Nat}{t0:Bytes}{h:AHeap}{rR:ARes}{hR:AHeap}(hF:z1c2 call n t0 h=some (rR,hR)):Says Try.prog 78 [z5 t0] h rR hR:=by
 unfold z1c2 at hF;exact sO Try.func78 fun w0 m0=>wW [(0,z5 t0)] (oG fun n1=>W.r (oA 2 AV.nilp (oV [(0,z5 t0)] (n1 (oG fun n2=>W.r (oA 3 (z5 t0) (oA 4 (.agg ([z5 t0,.int .i64 0,.int .i64 0,.int .i64 0]:List AV)) (oK 5 hF fun v5 h_3 hF=>oA 2 v5 (oV [(2,v5)] (n2 (oY (lZ hF [.tmp 2] [v5] (rT zd)))))))))))))
noncomputable def zb4(v8:AV)(k9:AHeap→R)(self:Int→Int→AHeap→R)(t0_16:Int)(t6:Int)(h_17:AHeap):R:=lett (decide (t6≥0)) fun (t12:Bool)=>ifB t12 (lett (IntKind.u8.wrap t0_16) fun (t18:Int)=>obind (z150 1 v8 t6) fun t19=>obind (z22 h_17 1 [.int .u8 t18] t19) fun h_26=>obind (shrI .u64 t0_16 8) fun t21=>lett (IntKind.i64.wrap (t6 - 1)) fun (t14:Int)=>self t21 t14 h_26) (k9 h_17)
noncomputable def za7(v8:AV)(k9:AHeap→R):Nat→Int→Int→AHeap→R:=z122 (fun _ _ _=>none) (zb4 v8 k9)
theorem z135(v8:AV)(k9:AHeap→R)(m:Nat):za7 v8 k9 (m+1)=zb4 v8 k9 (za7 v8 k9 m):=rfl
noncomputable def z114(_:z10)(n:Nat)(t0:Int)(t1:Int)(h:AHeap):R:=outK (z11f Try.prog h 46 (some (.int .i64 t1)) (some (.int .i64 t1))) fun v8 h_3=>lett (IntKind.i64.wrap (t1 - 1)) fun (t10:Int)=>lett (fun (h_10:AHeap)=>outK (z7b Try.prog h_10 46 9 (some v8)) fun v23 h_12=>obind (z20 v23) fun t23=>some (.ret (z5 t23),h_12)) fun k9=>za7 v8 k9 n t0 t10 h_3
set_option maxHeartbeats 4000000 in
set_option maxRecDepth 20000 in
theorem z2e2{call:z10}(_:SaysAll Try.prog call){n:Nat}{t0:Int}{t1:Int}{h:AHeap}{rR:ARes}{hR:AHeap}(hF:z114 call n t0 t1 h=some (rR,hR)):Says Try.prog 83 [.int .u64 t0,.int .i64 t1] h rR hR:=by
 unfold z114 at hF;refine sO Try.func83 fun w0 m0=>wW [(0,.int .u64 t0),(1,.int .i64 t1)] (oG fun n1=>W.r (oA 4 (z5 ([]:Bytes)) (oV [(0,.int .u64 t0),(1,.int .i64 t1)] (n1 (oG fun n2=>W.r (oA 7 (.int .i64 t1) (oK 8 hF fun v8 h_3 hF=>oA 5 v8 (oV [(0,.int .u64 t0),(1,.int .i64 t1),(5,v8)] (n2 (W.s (fun K5 n5 e5 q5 p5=>oG fun n6=>W.r (oA 9 (.int .i64 t1) (oI 10 .i64 hF fun t10 hF=>oA 6 (.int .i64 t10) (oV [(0,.int .u64 t0),(5,v8),(6,.int .i64 t10)] (n6 ?_)))))))))))))));obtain⟨k9,e9,hF⟩:=z6 hF
 have J9:∀(h_10:AHeap),k9 h_10=some (rR,hR)→Go w0 m0 (Func.ntmps Try.f83) (K5 .normal) [(5,v8)] [] h_10:=by
  intro h_10 hF;rw[e9] at hF;refine n5 (oG fun n11=>W.r (oA 22 v8 ?_))
  replace hF:=z1c hF;obtain⟨v23,h_12,e13,hF⟩:=hF
  replace hF:=z4 hF;obtain⟨t23,c14,hF⟩:=hF
  have c14:=z19 c14;subst c14;exact WL.b (some 23) (z5 t23) h_12 e13 (oA 4 (z5 t23) (oV [(4,z5 t23)] (n11 (oY (lZ hF [.tmp 4] [z5 t23] (rT zd))))))
 refine W.blockK (by kernel_rfl) (fun K8 n8 s8 o8 q8 p8=>W.loopK (by kernel_rfl) (fun I15 K15 b15 n15 e15 q15 p15=>?_))
 have L15:∀(m:Nat) (t0_16:Int) (t6:Int) (h_17:AHeap),za7 v8 k9 m t0_16 t6 h_17=some (rR,hR)→Go w0 m0 (Func.ntmps Try.f83) I15 [(0,.int .u64 t0_16),(5,v8),(6,.int .i64 t6)] [] h_17:=by
  intro m
  induction m with
  |zero=>intro t0_16 t6 h_17 hF;cases hF
  |succ m ih15=>
   intro t0_16 t6 h_17 hF;rw[z135] at hF;unfold zb4 at hF;refine b15 (W.s (fun K18 n18 e18 q18 p18=>oG fun n19=>W.r (oA 11 (.int .i64 t6) (oB 12 hF fun t12 hF=>oV [(0,.int .u64 t0_16),(5,v8),(6,.int .i64 t6),(12,.bool t12)] (n19 ?_)))))
   cases t12 with
   |true=>
    refine oT hF fun hF=>oZ (n18 (oG fun n21=>W.blockK (by kernel_rfl) (fun K22 n22 s22 o22 q22 p22=>oG fun n23=>W.r (oA 15 v8 (oA 16 (.int .i64 t6) (oA 17 (.int .u64 t0_16) (oI 18 .u8 hF fun t18 hF=>oP 19 46 5 .i64 hF fun t19 hF=>oW 5 (.int .u8 t18) hF fun h_26 hF=>oV [(0,.int .u64 t0_16),(5,v8),(6,.int .i64 t6)] (n23 (W.r (oA 20 (.int .u64 t0_16) ?_))))))))));obtain⟨t21,e28,hF⟩:=z4 hF;exact WL.b (some 21) (.int .u64 t21) h_26 (z3f2 (P:=Try.prog) (h:=h_26) (t:=131) (k':=.u64) (lit:=true) e28) (oA 0 (.int .u64 t21) (oV [(0,.int .u64 t21),(5,v8),(6,.int .i64 t6)] (n22 (n21 (W.r (oA 13 (.int .i64 t6) (oI 14 .i64 hF fun t14 hF=>oA 6 (.int .i64 t14) (oV [(0,.int .u64 t21),(5,v8),(6,.int .i64 t14)] (n15 (gW _ (ih15 _ _ _ hF)))))))))))
   |false=>
    exact oU hF fun hF=>W.exit (by kernel_rfl) (e18 (e15 (s8 (by kernel_rfl) (gW _ (J9 _ hF)))))
 exact gW _ (L15 _ _ _ _ hF)
noncomputable def z8d(call:z10)(_:Nat)(t0:AV)(h:AHeap):R:=callN (call 88 [t0,.int .i64 4] h) fun r4 h_3=>obind (z17 .u64 r4) fun t4=>lett (IntKind.u32.wrap t4) fun (t5:Int)=>some (.ret (.int .u32 t5),h_3)
set_option maxHeartbeats 4000000 in
set_option maxRecDepth 20000 in
theorem z207{call:z10}(hc:SaysAll Try.prog call){n:Nat}{t0:AV}{h:AHeap}{rR:ARes}{hR:AHeap}(hF:z8d call n t0 h=some (rR,hR)):Says Try.prog 98 [t0] h rR hR:=by
 unfold z8d at hF;exact sO Try.func98 fun w0 m0=>wW [(0,t0)] (oG fun n1=>W.r (oA 2 (.int .u32 0) (oV [(0,t0)] (n1 (oG fun n2=>W.r (oA 3 t0 (oCi hc 4 hF fun t4 h_3 hF=>oI 5 .u32 hF fun t5 hF=>oA 2 (.int .u32 t5) (oV [(2,.int .u32 t5)] (n2 (oY (lZ hF [.tmp 2] [.int .u32 t5] (rT zd))))))))))))
noncomputable def z8c(call:z10)(_:Nat)(t0:AV)(h:AHeap):R:=callN (call 88 [t0,.int .i64 8] h) fun r4 h_3=>obind (z17 .u64 r4) fun t4=>some (.ret (.int .u64 t4),h_3)
set_option maxHeartbeats 4000000 in
set_option maxRecDepth 20000 in
theorem z206{call:z10}(hc:SaysAll Try.prog call){n:Nat}{t0:AV}{h:AHeap}{rR:ARes}{hR:AHeap}(hF:z8c call n t0 h=some (rR,hR)):Says Try.prog 79 [t0] h rR hR:=by
 unfold z8c at hF;exact sO Try.func79 fun w0 m0=>wW [(0,t0)] (oG fun n1=>W.r (oA 2 (.int .u64 0) (oV [(0,t0)] (n1 (oG fun n2=>W.r (oA 3 t0 (oCi hc 4 hF fun t4 h_3 hF=>oA 2 (.int .u64 t4) (oV [(2,.int .u64 t4)] (n2 (oY (lZ hF [.tmp 2] [.int .u64 t4] (rT zd))))))))))))
noncomputable def z73(t0:AV)(t1:Int)(k33:Int→AHeap→R)(self:Int→Int→AHeap→R)(t5_37:Int)(t28:Int)(h_38:AHeap):R:=lett (decide (t28<t1)) fun (t29:Bool)=>ifB t29 (obind (shlI .u64 t5_37 8) fun t31=>obind (z53 t0) fun t33=>obind (z27 0 t33) fun t34=>obind (zc h_38 t34) fun v35=>obind (z20 v35) fun t35=>obind (z53 t0) fun t37=>obind (z27 1 t37) fun t38=>obind (zc h_38 t38) fun v39=>obind (z17 .i64 v39) fun t39=>obind (z3c1 t35 t39) fun t40=>lett (IntKind.u64.wrap t40) fun (t41:Int)=>lett (orI .u64 t31 t41) fun (t42:Int)=>obind (z53 t0) fun t44=>obind (z27 1 t44) fun t45=>obind (zc h_38 t45) fun v46=>obind (z17 .i64 v46) fun t46=>lett (IntKind.i64.wrap (t46+1)) fun (t47:Int)=>obind (z53 t0) fun t48=>obind (z27 1 t48) fun t49=>obind (z22 h_38 1 [.int .i64 t47] t49) fun h_64=>lett (IntKind.i64.wrap (t28+1)) fun (t50:Int)=>self t42 t50 h_64) (k33 t5_37 h_38)
noncomputable def z5c(t0:AV)(t1:Int)(k33:Int→AHeap→R):Nat→Int→Int→AHeap→R:=z122 (fun _ _ _=>none) (z73 t0 t1 k33)
theorem zfc(t0:AV)(t1:Int)(k33:Int→AHeap→R)(m:Nat):z5c t0 t1 k33 (m+1)=z73 t0 t1 k33 (z5c t0 t1 k33 m):=rfl
noncomputable def z5e(call:z10)(n:Nat)(t0:AV)(t1:Int)(h:AHeap):R:=callN (call 94 [t0] h) fun r7 h_4=>obind (z33 r7) fun t7=>lett (!t7) fun (t8:Bool)=>ifB t8 (some (.ret (.int .u64 0),h_4)) (obind (z53 t0) fun t10=>obind (z27 0 t10) fun t11=>obind (zc h_4 t11) fun v12=>obind (z20 v12) fun t12=>obind (z53 t0) fun t15=>obind (z27 1 t15) fun t16=>obind (zc h_4 t16) fun v17=>obind (z17 .i64 v17) fun t17=>lett (IntKind.i64.wrap ((z3b t12) - t17)) fun (t18:Int)=>lett (decide (t18<t1)) fun (t20:Bool)=>ifB t20 (obind (z53 t0) fun t23=>obind (z27 1 t23) fun t24=>obind (zc h_4 t24) fun v25=>obind (z17 .i64 v25) fun t25=>callN (call 95 [t0,.int .i64 7,.int .i64 t25] h_4) fun _ h_26=>some (.ret (.int .u64 0),h_26)) (lett (fun (t5:Int) (h_34:AHeap)=>some (.ret (.int .u64 t5),h_34)) fun k33=>z5c t0 t1 k33 n 0 0 h_4))
set_option maxHeartbeats 4000000 in
set_option maxRecDepth 20000 in
theorem z1b0{call:z10}(hc:SaysAll Try.prog call){n:Nat}{t0:AV}{t1:Int}{h:AHeap}{rR:ARes}{hR:AHeap}(hF:z5e call n t0 t1 h=some (rR,hR)):Says Try.prog 88 [t0,.int .i64 t1] h rR hR:=by
 unfold z5e at hF;refine sO Try.func88 fun w0 m0=>wW [(0,t0),(1,.int .i64 t1)] (oG fun n1=>W.r (oA 4 (.int .u64 0) (oV [(0,t0),(1,.int .i64 t1)] (n1 (oH fun n2 q2=>oG fun n3=>W.r (oA 6 t0 (oCb hc 7 hF fun t7 h_4 hF=>oB 8 hF fun t8 hF=>oV [(0,t0),(1,.int .i64 t1),(8,.bool t8)] (n3 ?_))))))))
 cases t8 with
 |true=>
  exact oT hF fun hF=>oG fun n8=>W.r (oA 4 (.int .u64 0) (oV [(4,.int .u64 0)] (n8 (oY (q2 (lZ hF [.tmp 4] [.int .u64 0] (rT zd)))))))
 |false=>
  refine oU hF fun hF=>oZ (n2 (oH fun n9 q9=>oG fun n10=>W.draw (by kernel_rfl) (hc.ok w0) (plan:=[0,1,2,3,4,5,6,7,8,9,10,11]) (by kernel_rfl) (by kernel_rfl) (by kernel_rfl) (WD.a 0 (some 9) t0 h_4 ?_)));obtain⟨t10,e11,hF⟩:=z4 hF;refine WD.b 0 (some 10) t10 h_4 (z2b (h:=h_4) e11) ?_;obtain⟨t11,e12,hF⟩:=z4 hF;refine WD.b 0 (some 11) t11 h_4 (z15 (P:=Try.prog) (h:=h_4) (s:=166) (f:=0) (by kernel_rfl) e12) ?_
  replace hF:=z4 hF;obtain⟨v12,e13,hF⟩:=hF
  replace hF:=z4 hF;obtain⟨t12,c14,hF⟩:=hF
  have c14:=z19 c14;subst c14;refine WD.b 1 (some 12) (z5 t12) h_4 (z14 (P:=Try.prog) (h:=h_4) (t:=9) (by kernel_rfl) e13) (WD.a 0 (some 13) (.int .i64 (z3b t12)) h_4 (WD.a 0 (some 14) t0 h_4 ?_));obtain⟨t15,e15,hF⟩:=z4 hF;refine WD.b 0 (some 15) t15 h_4 (z2b (h:=h_4) e15) ?_;obtain⟨t16,e16,hF⟩:=z4 hF;refine WD.b 0 (some 16) t16 h_4 (z15 (P:=Try.prog) (h:=h_4) (s:=166) (f:=1) (by kernel_rfl) e16) ?_
  replace hF:=z4 hF;obtain⟨v17,e17,hF⟩:=hF
  replace hF:=z4 hF;obtain⟨t17,c18,hF⟩:=hF
  have c18:=z1a c18;subst c18;refine WD.b 1 (some 17) (.int .i64 t17) h_4 (z14 (P:=Try.prog) (h:=h_4) (t:=3) (by kernel_rfl) e17) ?_;obtain⟨t18,e19,hF⟩:=z6 hF;refine WD.val (d:=(some 18)) (v:=.int .i64 t18) (h':=h_4) (by kernel_rfl) (by kernel_rfl) (z38 (AV.int .i64) e19 (by kernel_rfl)) (k:=0) (by kernel_rfl) (fun e=>absurd e (by decide)) (by decide) (WD.a 0 (some 19) (.int .i64 t1) h_4 ?_);obtain⟨t20,e20,hF⟩:=z6 hF;refine WD.val (d:=(some 20)) (v:=.bool t20) (h':=h_4) (by kernel_rfl) (by kernel_rfl) (z38 AV.bool e20 (by kernel_rfl)) (k:=0) (by kernel_rfl) (fun e=>absurd e (by decide)) (by decide) (WD.nil (gW [(0,t0),(1,.int .i64 t1),(20,.bool t20)] (n10 ?_)))
  cases t20 with
  |true=>
   exact oT hF fun hF=>oG fun n21=>W.r (oA 21 t0 (oA 22 t0 (oC0 23 hF fun t23 hF=>oF 24 166 1 hF fun t24 hF=>oLi 25 3 hF fun t25 hF=>oC hc (some 26) hF fun r26 h_26 hF=>oV [] (n21 (oG fun n28=>W.r (oA 4 (.int .u64 0) (oV [(4,.int .u64 0)] (n28 (oY (q9 (lZ hF [.tmp 4] [.int .u64 0] (rT zd))))))))))))
  |false=>
   refine oU hF fun hF=>oZ (n9 (oG fun n29=>W.r (oA 5 (.int .u64 0) (oV [(0,t0),(1,.int .i64 t1),(5,.int .u64 0)] (n29 (W.s (fun K30 n30 e30 q30 p30=>oG fun n31=>W.r (oA 27 (.int .i64 t1) (oA 28 (.int .i64 0) (oV [(0,t0),(5,.int .u64 0),(27,.int .i64 t1),(28,.int .i64 0)] (n31 ?_)))))))))));obtain⟨k33,e33,hF⟩:=z6 hF
   have J33:∀(t5:Int) (h_34:AHeap),k33 t5 h_34=some (rR,hR)→Go w0 m0 (Func.ntmps Try.f88) (K30 .normal) [(5,.int .u64 t5)] [] h_34:=by
    intro t5 h_34 hF;rw[e33] at hF;exact n30 (oG fun n35=>W.r (oA 51 (.int .u64 t5) (oA 4 (.int .u64 t5) (oV [(4,.int .u64 t5)] (n35 (oY (lZ hF [.tmp 4] [.int .u64 t5] (rT zd))))))))
   refine W.blockK (by kernel_rfl) (fun K32 n32 s32 o32 q32 p32=>W.loopK (by kernel_rfl) (fun I36 K36 b36 n36 e36 q36 p36=>?_))
   have L36:∀(m:Nat) (t5_37:Int) (t28:Int) (h_38:AHeap),z5c t0 t1 k33 m t5_37 t28 h_38=some (rR,hR)→Go w0 m0 (Func.ntmps Try.f88) I36 [(0,t0),(5,.int .u64 t5_37),(27,.int .i64 t1),(28,.int .i64 t28)] [] h_38:=by
    intro m
    induction m with
    |zero=>intro t5_37 t28 h_38 hF;cases hF
    |succ m ih36=>
     intro t5_37 t28 h_38 hF;rw[zfc] at hF;unfold z73 at hF;refine b36 (oG fun n39=>W.r (oB 29 hF fun t29 hF=>oV [(0,t0),(5,.int .u64 t5_37),(27,.int .i64 t1),(28,.int .i64 t28),(29,.bool t29)] (n39 (W.s (fun K41 n41 e41 q41 p41=>?_)))))
     cases t29 with
     |true=>
      refine oT hF fun hF=>oZ (n41 (oG fun n42=>W.blockK (by kernel_rfl) (fun K43 n43 s43 o43 q43 p43=>oG fun n44=>W.draw (by kernel_rfl) (hc.ok w0) (plan:=[0,1,2,3,4,5,6,7,8,9,10,11,12,13]) (by kernel_rfl) (by kernel_rfl) (by kernel_rfl) (WD.a 0 (some 30) (.int .u64 t5_37) h_38 ?_))));obtain⟨t31,e45,hF⟩:=z4 hF;refine WD.b 0 (some 31) (.int .u64 t31) h_38 (shl_int (P:=Try.prog) (h:=h_38) (t:=131) (k':=.u64) (lit:=true) e45) (WD.a 0 (some 32) t0 h_38 ?_);obtain⟨t33,e46,hF⟩:=z4 hF;refine WD.b 0 (some 33) t33 h_38 (z2b (h:=h_38) e46) ?_;obtain⟨t34,e47,hF⟩:=z4 hF;refine WD.b 0 (some 34) t34 h_38 (z15 (P:=Try.prog) (h:=h_38) (s:=166) (f:=0) (by kernel_rfl) e47) ?_
      replace hF:=z4 hF;obtain⟨v35,e48,hF⟩:=hF
      replace hF:=z4 hF;obtain⟨t35,c49,hF⟩:=hF
      have c49:=z19 c49;subst c49;refine WD.b 1 (some 35) (z5 t35) h_38 (z14 (P:=Try.prog) (h:=h_38) (t:=9) (by kernel_rfl) e48) (WD.a 0 (some 36) t0 h_38 ?_);obtain⟨t37,e50,hF⟩:=z4 hF;refine WD.b 0 (some 37) t37 h_38 (z2b (h:=h_38) e50) ?_;obtain⟨t38,e51,hF⟩:=z4 hF;refine WD.b 0 (some 38) t38 h_38 (z15 (P:=Try.prog) (h:=h_38) (s:=166) (f:=1) (by kernel_rfl) e51) ?_
      replace hF:=z4 hF;obtain⟨v39,e52,hF⟩:=hF
      replace hF:=z4 hF;obtain⟨t39,c53,hF⟩:=hF
      have c53:=z1a c53;subst c53;refine WD.b 1 (some 39) (.int .i64 t39) h_38 (z14 (P:=Try.prog) (h:=h_38) (t:=3) (by kernel_rfl) e52) ?_;obtain⟨t40,e54,hF⟩:=z4 hF;refine WD.b 0 (some 40) (.int .u8 t40) h_38 (z17f (P:=Try.prog) (h:=h_38) (t:=9) (k:=.i64) (by kernel_rfl) e54) ?_;obtain⟨t41,e55,hF⟩:=z6 hF;refine WD.val (d:=(some 41)) (v:=.int .u64 t41) (h':=h_38) (by kernel_rfl) (by kernel_rfl) (z38 (AV.int .u64) e55 (by kernel_rfl)) (k:=0) (by kernel_rfl) (fun e=>absurd e (by decide)) (by decide) ?_;obtain⟨t42,e56,hF⟩:=z6 hF;exact WD.val (d:=(some 42)) (v:=.int .u64 t42) (h':=h_38) (by kernel_rfl) (by kernel_rfl) (z38 (AV.int .u64) e56 (by kernel_rfl)) (k:=0) (by kernel_rfl) (fun e=>absurd e (by decide)) (by decide) (WD.val (d:=(some 5)) (v:=.int .u64 t42) (h':=h_38) (by kernel_rfl) (by kernel_rfl) (by kernel_rfl) (k:=2) (by kernel_rfl) (fun _=>(by kernel_rfl)) (by decide) (WD.nil (gW [(0,t0),(5,.int .u64 t42),(27,.int .i64 t1),(28,.int .i64 t28)] (n44 (W.r (oA 43 t0 (oC0 44 hF fun t44 hF=>oF 45 166 1 hF fun t45 hF=>oLi 46 3 hF fun t46 hF=>oI 47 .i64 hF fun t47 hF=>oC0 48 hF fun t48 hF=>oF 49 166 1 hF fun t49 hF=>oW 3 (.int .i64 t47) hF fun h_64 hF=>oV [(0,t0),(5,.int .u64 t42),(27,.int .i64 t1),(28,.int .i64 t28)] (n43 (n42 (W.r (oI 50 .i64 hF fun t50 hF=>oA 28 (.int .i64 t50) (oV [(0,t0),(5,.int .u64 t42),(27,.int .i64 t1),(28,.int .i64 t50)] (n36 (gW _ (ih36 _ _ _ hF)))))))))))))))
     |false=>
      exact oU hF fun hF=>W.exit (by kernel_rfl) (e41 (e36 (s32 (by kernel_rfl) (gW _ (J33 _ _ hF)))))
   exact gW _ (L36 _ _ _ _ hF)
noncomputable def z67(_:z10)(_:Nat)(t0:AV)(h:AHeap):R:=outK (z75 Try.prog h .neq 150 true (some t0) (some AV.nilp)) fun v4 h_3=>obind (z33 v4) fun t4=>lett (fun (t12:Bool) (h_6:AHeap)=>some (.ret (.bool t12),h_6)) fun j12=>ifB t4 (obind (z53 t0) fun t7=>obind (z27 2 t7) fun t8=>obind (z27 0 t8) fun t9=>obind (zc h_3 t9) fun v10=>obind (z17 .i64 v10) fun t10=>lett ((t10:Int) == 0) fun (t11:Bool)=>j12 t11 h_3) (j12 false h_3)
set_option maxHeartbeats 4000000 in
set_option maxRecDepth 20000 in
theorem z1d5{call:z10}(_:SaysAll Try.prog call){n:Nat}{t0:AV}{h:AHeap}{rR:ARes}{hR:AHeap}(hF:z67 call n t0 h=some (rR,hR)):Says Try.prog 94 [t0] h rR hR:=by
 unfold z67 at hF;refine sO Try.func94 fun w0 m0=>wW [(0,t0)] (oG fun n1=>W.r (oA 2 (.bool false) (oV [(0,t0)] (n1 (W.s (fun K2 n2 e2 q2 p2=>W.r (oA 3 t0 ?_)))))))
 replace hF:=z1c hF;obtain⟨v4,h_3,e4,hF⟩:=hF
 replace hF:=z4 hF;obtain⟨t4,c5,hF⟩:=hF
 have c5:=z24 c5;subst c5;refine WL.b (some 4) (.bool t4) h_3 e4 (oA 5 (.bool t4) ?_);obtain⟨j12,e7,hF⟩:=z6 hF
 have J8:∀(t12:Bool) (h_6:AHeap),j12 t12 h_6=some (rR,hR)→WL Try.prog w0 m0 (Func.ntmps Try.f94) (Code.ops (y6 (y5 (z2a Try.f94)))) 10 K2 [(12,.bool t12)] [] h_6:=by
  intro t12 h_6 hF;rw[e7] at hF;exact oA 2 (.bool t12) (oV [(2,.bool t12)] (n2 (oY (lZ hF [.tmp 2] [.bool t12] (rT zd)))))
 cases t4 with
 |true=>
  replace hF:=z4f hF
  exact oA 6 t0 (oC0 7 hF fun t7 hF=>oF 8 166 2 hF fun t8 hF=>oF 9 164 0 hF fun t9 hF=>oLi 10 24 hF fun t10 hF=>oB 11 hF fun t11 hF=>oA 12 (.bool t11) (lW _ (J8 _ _ hF)))
 |false=>
  replace hF:=z50 hF
  exact WL.o (some 6) (WL.o (some 7) (WL.o (some 8) (WL.o (some 9) (WL.o (some 10) (WL.o (some 11) (oA 12 (.bool false) (lW _ (J8 _ _ hF))))))))
noncomputable def z76(_:z10)(_:Nat)(t0:AV)(t1:Int)(t2:Int)(h:AHeap):R:=obind (z53 t0) fun t10=>obind (z27 2 t10) fun t11=>obind (z22 h 2 ([.int .i64 t1,.int .i64 t2]:List AV) t11) fun h_3=>some (.ret (.tup []),h_3)
set_option maxHeartbeats 4000000 in
set_option maxRecDepth 20000 in
theorem z1ea{call:z10}(_:SaysAll Try.prog call){n:Nat}{t0:AV}{t1:Int}{t2:Int}{h:AHeap}{rR:ARes}{hR:AHeap}(hF:z76 call n t0 t1 t2 h=some (rR,hR)):Says Try.prog 95 [t0,.int .i64 t1,.int .i64 t2] h rR hR:=by
 unfold z76 at hF;exact sO Try.func95 fun w0 m0=>wW [(0,t0),(1,.int .i64 t1),(2,.int .i64 t2)] (W.r (oA 6 t0 (oA 7 (.int .i64 t1) (oA 8 (.int .i64 t2) (oA 9 (.agg ([.int .i64 t1,.int .i64 t2]:List AV)) (oC0 10 hF fun t10 hF=>oF 11 166 2 hF fun t11 hF=>oW 164 (.agg ([.int .i64 t1,.int .i64 t2]:List AV)) hF fun h_3 hF=>oV [] (lY hF [] [] zd)))))))
noncomputable def z68(call:z10)(_:Nat)(t0:Bytes)(t1:Bytes)(h:AHeap):R:=callN (call 56 [z5 t0,z5 t1] h) fun r7 h_3=>obind (z33 r7) fun t7=>some (.ret (.bool t7),h_3)
set_option maxHeartbeats 4000000 in
set_option maxRecDepth 20000 in
theorem z1d8{call:z10}(hc:SaysAll Try.prog call){n:Nat}{t0:Bytes}{t1:Bytes}{h:AHeap}{rR:ARes}{hR:AHeap}(hF:z68 call n t0 t1 h=some (rR,hR)):Says Try.prog 32 [z5 t0,z5 t1] h rR hR:=by
 unfold z68 at hF;exact sO Try.func32 fun w0 m0=>wW [(0,z5 t0),(1,z5 t1)] (oG fun n1=>W.r (oA 4 (.bool false) (oV [(0,z5 t0),(1,z5 t1)] (n1 (oG fun n2=>W.r (oA 5 (z5 t0) (oA 6 (z5 t1) (oCb hc 7 hF fun t7 h_3 hF=>oA 4 (.bool t7) (oV [(4,.bool t7)] (n2 (oY (lZ hF [.tmp 4] [.bool t7] (rT zd)))))))))))))
noncomputable def z29(_:z10)(_:Nat)(t0:Bytes)(t1:Bytes)(h:AHeap):R:=lett (decide ((z3b t0)≥(z3b t1))) fun (t9:Bool)=>lett (fun (t17:Bool) (h_4:AHeap)=>some (.ret (.bool t17),h_4)) fun j17=>ifB t9 (obind (z43 t0 0 (z3b t1)) fun t14=>lett (eqS t14 t1) fun (t16:Bool)=>j17 t16 h) (j17 false h)
set_option maxHeartbeats 4000000 in
set_option maxRecDepth 20000 in
theorem z10a{call:z10}(_:SaysAll Try.prog call){n:Nat}{t0:Bytes}{t1:Bytes}{h:AHeap}{rR:ARes}{hR:AHeap}(hF:z29 call n t0 t1 h=some (rR,hR)):Says Try.prog 56 [z5 t0,z5 t1] h rR hR:=by
 unfold z29 at hF;refine sO Try.func56 fun w0 m0=>wW [(0,z5 t0),(1,z5 t1)] (oG fun n1=>W.r (oA 4 (.bool false) (oV [(0,z5 t0),(1,z5 t1)] (n1 (W.s (fun K2 n2 e2 q2 p2=>W.r (oA 5 (z5 t0) (oA 6 (.int .i64 (z3b t0)) (oA 7 (z5 t1) (oA 8 (.int .i64 (z3b t1)) (oB 9 hF fun t9 hF=>oA 10 (.bool t9) ?_)))))))))));obtain⟨j17,e5,hF⟩:=z6 hF
 have J6:∀(t17:Bool) (h_4:AHeap),j17 t17 h_4=some (rR,hR)→WL Try.prog w0 m0 (Func.ntmps Try.f56) (Code.ops (y6 (y5 (z2a Try.f56)))) 13 K2 [(17,.bool t17)] [] h_4:=by
  intro t17 h_4 hF;rw[e5] at hF;exact oA 4 (.bool t17) (oV [(4,.bool t17)] (n2 (oY (lZ hF [.tmp 4] [.bool t17] (rT zd)))))
 cases t9 with
 |true=>
  replace hF:=z4f hF
  refine oA 11 (z5 t0) (oA 12 (z5 t1) (oA 13 (.int .i64 (z3b t1)) ?_));obtain⟨t14,e7,hF⟩:=z4 hF;exact WL.b (some 14) (z5 t14) h (z48 (P:=Try.prog) (h:=h) (t:=9) (A:=none) (B:=(some (.int .i64 (z3b t1)))) (by kernel_rfl) (.inr ⟨rfl,rfl⟩) (.inl ⟨_,rfl⟩) e7) (oA 15 (z5 t1) (oB 16 hF fun t16 hF=>oA 17 (.bool t16) (lW _ (J6 _ _ hF))))
 |false=>
  replace hF:=z50 hF
  exact WL.o (some 11) (WL.o (some 12) (WL.o (some 13) (WL.o (some 14) (WL.o (some 15) (WL.o (some 16) (oA 17 (.bool false) (lW _ (J6 _ _ hF))))))))
noncomputable def z49(call:z10)(_:Nat)(t0:AV)(t1:Int)(h:AHeap):R:=
 callN (call 57 [t0] h) fun _ h_2=>
 lett (decide (t1<0)) fun (t7:Bool)=>
 lett (fun (h_8:AHeap)=>
  obind (z53 t0) fun t10=>
  obind (z27 1 t10) fun t11=>
  obind (zc h_8 t11) fun v12=>
  obind (z53 t0) fun t15=>
  obind (z27 1 t15) fun t16=>
  obind (zc h_8 t16) fun v17=>
  obind (z12d v17) fun t18=>
  outK (z10f Try.prog .cap #[46] [v12] h_8) fun v13 h_17=>
  obind (z17 .i64 v13) fun t13=>
  chk (z86 Try.prog h_17 46 t16 v17&&(true&&true))<|
  lett (IntKind.i64.wrap (t13 - t18)) fun (t19:Int)=>
  lett (decide (t19<t1)) fun (t21:Bool)=>
  lett (fun (h_24:AHeap)=>
   some (.ret (.tup []),h_24)) fun k23=>
  ifB t21
  (
   callN (call 58 [t0,.int .i64 t1] h_17) fun _ h_25=>
   k23 h_25)
  (
   k23 h_17)) fun k7=>
 ifB t7
 (
  panK (AV.ifc 9 (z5 ([115,116,114,105,110,103,115,46,66,117,105,108,100,101,114,46,71,114,111,119,58,32,110,101,103,97,116,105,118,101,32,99,111,117,110,116]:Bytes))) h_2)
 (
  k7 h_2)
set_option maxHeartbeats 4000000 in
set_option maxRecDepth 20000 in
theorem z18d{call:z10}(hc:SaysAll Try.prog call){n:Nat}{t0:AV}{t1:Int}{h:AHeap}{rR:ARes}{hR:AHeap}(hF:z49 call n t0 t1 h=some (rR,hR)):Says Try.prog 33 [t0,.int .i64 t1] h rR hR:=by
 unfold z49 at hF;refine sO Try.func33 fun w0 m0=>wW [(0,t0),(1,.int .i64 t1)] (oG fun n1=>W.r (oA 4 t0 (oC hc (some 5) hF fun r5 h_2 hF=>oV [(0,t0),(1,.int .i64 t1)] (n1 (W.s (fun K4 n4 e4 q4 p4=>oG fun n5=>W.r (oA 6 (.int .i64 t1) (oB 7 hF fun t7 hF=>oV [(0,t0),(1,.int .i64 t1),(7,.bool t7)] (n5 ?_)))))))));obtain⟨k7,e7,hF⟩:=z6 hF
 have J7:∀(h_8:AHeap),k7 h_8=some (rR,hR)→Go w0 m0 (Func.ntmps Try.f33) (K4 .normal) [(0,t0),(1,.int .i64 t1)] [] h_8:=by
  intro h_8 hF;rw[e7] at hF;refine n4 (oG fun n9=>W.draw (by kernel_rfl) (hc.ok w0) (plan:=[0,1,2,3,5,6,7,8,9,11,4,10,12]) (by kernel_rfl) (by kernel_rfl) (by kernel_rfl) (WD.a 0 (some 9) t0 h_8 ?_));obtain⟨t10,e10,hF⟩:=z4 hF;refine WD.b 0 (some 10) t10 h_8 (z2b (h:=h_8) e10) ?_;obtain⟨t11,e11,hF⟩:=z4 hF;refine WD.b 0 (some 11) t11 h_8 (z15 (P:=Try.prog) (h:=h_8) (s:=89) (f:=1) (by kernel_rfl) e11) ?_;obtain⟨v12,e12,hF⟩:=z4 hF;refine WD.b 1 (some 12) v12 h_8 (z14 (P:=Try.prog) (h:=h_8) (t:=46) (by kernel_rfl) e12) (WD.a 0 (some 14) t0 h_8 ?_);obtain⟨t15,e13,hF⟩:=z4 hF;refine WD.b 0 (some 15) t15 h_8 (z2b (h:=h_8) e13) ?_;obtain⟨t16,e14,hF⟩:=z4 hF;refine WD.b 0 (some 16) t16 h_8 (z15 (P:=Try.prog) (h:=h_8) (s:=89) (f:=1) (by kernel_rfl) e14) ?_;obtain⟨v17,e15,hF⟩:=z4 hF;refine WD.b 1 (some 17) v17 h_8 (z14 (P:=Try.prog) (h:=h_8) (t:=46) (by kernel_rfl) e15) ?_;obtain⟨t18,e16,hF⟩:=z4 hF;refine WD.b 0 (some 18) (.int .i64 t18) h_8 (z1b7 (P:=Try.prog) (h:=h_8) (t:=46) (e':=5) (by kernel_rfl) e16) (WD.a 0 (some 20) (.int .i64 t1) h_8 ?_)
  replace hF:=z1c hF;obtain⟨v13,h_17,e18,hF⟩:=hF
  replace hF:=z4 hF;obtain⟨t13,c19,hF⟩:=hF
  have c19:=z1a c19;subst c19;obtain⟨k20,hF⟩:=z74 hF;refine WD.val (d:=(some 13)) (v:=.int .i64 t13) (h':=h_17) (by kernel_rfl) (by kernel_rfl) (Eq.trans (by kernel_rfl) e18) (k:=2) (by kernel_rfl) (fun _=>(Eq.trans (by kernel_rfl) k20)) (by decide) ?_;obtain⟨t19,e21,hF⟩:=z6 hF;refine WD.val (d:=(some 19)) (v:=.int .i64 t19) (h':=h_17) (by kernel_rfl) (by kernel_rfl) (z38 (AV.int .i64) e21 (by kernel_rfl)) (k:=0) (by kernel_rfl) (fun e=>absurd e (by decide)) (by decide) ?_;obtain⟨t21,e22,hF⟩:=z6 hF;refine WD.val (d:=(some 21)) (v:=.bool t21) (h':=h_17) (by kernel_rfl) (by kernel_rfl) (z38 AV.bool e22 (by kernel_rfl)) (k:=0) (by kernel_rfl) (fun e=>absurd e (by decide)) (by decide) (WD.nil (gW [(0,t0),(1,.int .i64 t1),(21,.bool t21)] (n9 ?_)));obtain⟨k23,e23,hF⟩:=z6 hF
  have J23:∀(h_24:AHeap),k23 h_24=some (rR,hR)→Go w0 m0 (Func.ntmps Try.f33) (Fin Try.prog Try.f33 w0 m0 rR hR .normal) [] [] h_24:=by
   intro h_24 hF;rw[e23] at hF;exact lY hF [] [] zd
  cases t21 with
  |true=>
   exact oT hF fun hF=>W.r (oA 22 t0 (oA 23 (.int .i64 t1) (oC hc (some 24) hF fun r24 h_25 hF=>oV [] (gW _ (J23 _ hF)))))
  |false=>
   exact oU hF fun hF=>oZ (gW _ (J23 _ hF))
 cases t7 with
 |true=>
  refine oT hF fun hF=>W.r (oA 8 (AV.ifc 9 (z5 ([115,116,114,105,110,103,115,46,66,117,105,108,100,101,114,46,71,114,111,119,58,32,110,101,103,97,116,105,118,101,32,99,111,117,110,116]:Bytes))) ?_)
  replace hF:=z2ac hF;obtain⟨a28t,a28v,e27,e272⟩:=hF
  cases e272
  exact WL.pan (d:=none) (by kernel_rfl) (by kernel_rfl) (Eq.trans (by kernel_rfl) (congrArg (fun x=>z2ae _ (some x)) e27)) (p4 y3f)
 |false=>
  exact oU hF fun hF=>oZ (gW _ (J7 _ hF))
noncomputable def z26(call:z10)(_:Nat)(t0:AV)(t1:Bytes)(h:AHeap):R:=callN (call 57 [t0] h) fun _ h_3=>obind (z53 t0) fun t10=>obind (z27 1 t10) fun t11=>obind (zc h_3 t11) fun v12=>outK (z34 Try.prog h_3 46 9 v12 (z5 t1)) fun v14 h_9=>obind (z53 t0) fun t15=>obind (z27 1 t15) fun t16=>obind (z22 h_9 1 (AV.cells v14) t16) fun h_13=>some (.ret (.tup [.int .i64 (z3b t1),AV.nifc]),h_13)
set_option maxHeartbeats 4000000 in
set_option maxRecDepth 20000 in
theorem z131{call:z10}(hc:SaysAll Try.prog call){n:Nat}{t0:AV}{t1:Bytes}{h:AHeap}{rR:ARes}{hR:AHeap}(hF:z26 call n t0 t1 h=some (rR,hR)):Says Try.prog 34 [t0,z5 t1] h rR hR:=by
 unfold z26 at hF;exact sO Try.func34 fun w0 m0=>wW [(0,t0),(1,z5 t1)] (oG fun n1=>W.r (oA 4 (.int .i64 0) (oA 5 AV.nifc (oV [(0,t0),(1,z5 t1)] (n1 (oG fun n2=>W.r (oA 6 t0 (oC hc (some 7) hF fun r7 h_3 hF=>oV [(0,t0),(1,z5 t1)] (n2 (oG fun n5=>W.r (oA 8 t0 (oA 9 t0 (oC0 10 hF fun t10 hF=>oF 11 89 1 hF fun t11 hF=>oL 12 46 hF fun v12 hF=>oA 13 (z5 t1) (oK 14 hF fun v14 h_9 hF=>oC0 15 hF fun t15 hF=>oF 16 89 1 hF fun t16 hF=>oW 46 v14 hF fun h_13 hF=>oV [(1,z5 t1)] (n5 (oG fun n15=>W.r (oA 17 (z5 t1) (oA 18 (.int .i64 (z3b t1)) (oA 4 (.int .i64 (z3b t1)) (oA 5 AV.nifc (oV [(4,.int .i64 (z3b t1)),(5,AV.nifc)] (n15 (oY (lZ hF [.tmp 4,.tmp 5] [.int .i64 (z3b t1),AV.nifc] (rT (rT zd))))))))))))))))))))))))))
noncomputable def z3d(_:z10)(_:Nat)(t0:AV)(h:AHeap):R:=
 obind (z53 t0) fun t4=>
 obind (z27 1 t4) fun t5=>
 obind (zc h t5) fun v6=>
 obind (z53 t0) fun t9=>
 obind (z27 1 t9) fun t10=>
 obind (zc h t10) fun v11=>
 obind (z12d v11) fun t12=>
 outK (ze9 h v6) fun v7 h_10=>
 chk (z86 Try.prog h_10 46 t10 v11&&(true&&true))<|
 outK (zbe Try.prog h_10 134 v7 (.int .i64 t12)) fun v13 h_13=>
 obind (z20 v13) fun t13=>
 some (.ret (z5 t13),h_13)
set_option maxHeartbeats 4000000 in
set_option maxRecDepth 20000 in
theorem z170{call:z10}(hc:SaysAll Try.prog call){n:Nat}{t0:AV}{h:AHeap}{rR:ARes}{hR:AHeap}(hF:z3d call n t0 h=some (rR,hR)):Says Try.prog 36 [t0] h rR hR:=by
 unfold z3d at hF;refine sO Try.func36 fun w0 m0=>wW [(0,t0)] (oG fun n1=>W.r (oA 2 (z5 ([]:Bytes)) (oV [(0,t0)] (n1 (oG fun n2=>W.draw (by kernel_rfl) (hc.ok w0) (plan:=[0,1,2,3,5,6,7,8,9,4,10,11]) (by kernel_rfl) (by kernel_rfl) (by kernel_rfl) (WD.a 0 (some 3) t0 h ?_))))));obtain⟨t4,e3,hF⟩:=z4 hF;refine WD.b 0 (some 4) t4 h (z2b (h:=h) e3) ?_;obtain⟨t5,e4,hF⟩:=z4 hF;refine WD.b 0 (some 5) t5 h (z15 (P:=Try.prog) (h:=h) (s:=89) (f:=1) (by kernel_rfl) e4) ?_;obtain⟨v6,e5,hF⟩:=z4 hF;refine WD.b 1 (some 6) v6 h (z14 (P:=Try.prog) (h:=h) (t:=46) (by kernel_rfl) e5) (WD.a 0 (some 8) t0 h ?_);obtain⟨t9,e6,hF⟩:=z4 hF;refine WD.b 0 (some 9) t9 h (z2b (h:=h) e6) ?_;obtain⟨t10,e7,hF⟩:=z4 hF;refine WD.b 0 (some 10) t10 h (z15 (P:=Try.prog) (h:=h) (s:=89) (f:=1) (by kernel_rfl) e7) ?_;obtain⟨v11,e8,hF⟩:=z4 hF;refine WD.b 1 (some 11) v11 h (z14 (P:=Try.prog) (h:=h) (t:=46) (by kernel_rfl) e8) ?_;obtain⟨t12,e9,hF⟩:=z4 hF;refine WD.b 0 (some 12) (.int .i64 t12) h (z1b7 (P:=Try.prog) (h:=h) (t:=46) (e':=5) (by kernel_rfl) e9) ?_;obtain⟨v7,h_10,e11,hF⟩:=z1c hF;obtain⟨k12,hF⟩:=z74 hF;refine WD.val (d:=(some 7)) (v:=v7) (h':=h_10) (by kernel_rfl) (by kernel_rfl) (Eq.trans (by kernel_rfl) e11) (k:=2) (by kernel_rfl) (fun _=>(Eq.trans (by kernel_rfl) k12)) (by decide) ?_
 replace hF:=z1c hF;obtain⟨v13,h_13,e14,hF⟩:=hF
 replace hF:=z4 hF;obtain⟨t13,c15,hF⟩:=hF
 have c15:=z19 c15;subst c15;exact WD.val (d:=(some 13)) (v:=z5 t13) (h':=h_13) (by kernel_rfl) (by kernel_rfl) (Eq.trans (by kernel_rfl) e14) (k:=2) (by kernel_rfl) (fun _=>(by kernel_rfl)) (by decide) (WD.a 0 (some 2) (z5 t13) h_13 (WD.nil (gW [(2,z5 t13)] (n2 (oY (lZ hF [.tmp 2] [z5 t13] (rT zd)))))))
noncomputable def z2e(_:z10)(_:Nat)(t0:AV)(h:AHeap):R:=obind (z53 t0) fun t3=>obind (z27 0 t3) fun t4=>obind (zc h t4) fun v5=>outK (z75 Try.prog h .eql 87 true (some v5) (some AV.nilp)) fun v6 h_5=>obind (z33 v6) fun t6=>lett (fun (h_9:AHeap)=>some (.ret (.tup []),h_9)) fun k8=>ifB t6 (outK (z7b Try.prog h_5 87 147 (some t0)) fun v9 h_10=>outK (z2c6 Try.prog h_10 75 [v9]) fun v10 h_14=>outK (z7b Try.prog h_14 147 87 (some v10)) fun v11 h_16=>obind (z53 t0) fun t12=>obind (z27 0 t12) fun t13=>obind (z22 h_16 1 (AV.cells v11) t13) fun h_20=>k8 h_20) (obind (z53 t0) fun t15=>obind (z27 0 t15) fun t16=>obind (zc h_5 t16) fun v17=>outK (z21c Try.prog h_5 .neq 87 false (some v17) (some t0)) fun v19 h_26=>obind (z33 v19) fun t19=>ifB t19 (none) (k8 h_26))
set_option maxHeartbeats 4000000 in
set_option maxRecDepth 20000 in
theorem z13d{call:z10}(_:SaysAll Try.prog call){n:Nat}{t0:AV}{h:AHeap}{rR:ARes}{hR:AHeap}(hF:z2e call n t0 h=some (rR,hR)):Says Try.prog 57 [t0] h rR hR:=by
 unfold z2e at hF;refine sO Try.func57 fun w0 m0=>wW [(0,t0)] (oG fun n1=>W.r (oA 2 t0 (oC0 3 hF fun t3 hF=>oF 4 89 0 hF fun t4 hF=>oL 5 87 hF fun v5 hF=>?_)))
 replace hF:=z1c hF;obtain⟨v6,h_5,e6,hF⟩:=hF
 replace hF:=z4 hF;obtain⟨t6,c7,hF⟩:=hF
 have c7:=z24 c7;subst c7;refine WL.b (some 6) (.bool t6) h_5 e6 (oV [(0,t0),(6,.bool t6)] (n1 ?_));obtain⟨k8,e8,hF⟩:=z6 hF
 have J8:∀(h_9:AHeap),k8 h_9=some (rR,hR)→Go w0 m0 (Func.ntmps Try.f57) (Fin Try.prog Try.f57 w0 m0 rR hR .normal) [] [] h_9:=by
  intro h_9 hF;rw[e8] at hF;exact lY hF [] [] zd
 cases t6 with
 |true=>
  exact oT hF fun hF=>W.r (oA 7 t0 (oA 8 t0 (oK 9 hF fun v9 h_10 hF=>oK 10 hF fun v10 h_14 hF=>oK 11 hF fun v11 h_16 hF=>oC0 12 hF fun t12 hF=>oF 13 89 0 hF fun t13 hF=>oW 87 v11 hF fun h_20 hF=>oV [] (gW _ (J8 _ hF)))))
 |false=>
  refine oU hF fun hF=>oG fun n22=>W.r (oA 14 t0 (oC0 15 hF fun t15 hF=>oF 16 89 0 hF fun t16 hF=>oL 17 87 hF fun v17 hF=>oA 18 t0 ?_))
  replace hF:=z1c hF;obtain⟨v19,h_26,e27,hF⟩:=hF
  replace hF:=z4 hF;obtain⟨t19,c28,hF⟩:=hF
  have c28:=z24 c28;subst c28;refine WL.b (some 19) (.bool t19) h_26 e27 (oV [(19,.bool t19)] (n22 ?_))
  cases t19 with
  |true=>
   refine oT hF fun hF=>?_;cases hF
  |false=>
   exact oU hF fun hF=>oZ (gW _ (J8 _ hF))
noncomputable def z52(_:z10)(_:Nat)(t0:AV)(t1:Int)(h:AHeap):R:=
 obind (z53 t0) fun t6=>
 obind (z27 1 t6) fun t7=>
 obind (zc h t7) fun v8=>
 obind (z53 t0) fun t15=>
 obind (z27 1 t15) fun t16=>
 obind (zc h t16) fun v17=>
 obind (z12d v17) fun t18=>
 outK (z10f Try.prog .cap #[46] [v8] h) fun v9 h_9=>
 obind (z17 .i64 v9) fun t9=>
 chk (z86 Try.prog h_9 46 t16 v17&&(true&&true))<|
 lett (IntKind.i64.wrap (2*t9)) fun (t10:Int)=>
 lett (IntKind.i64.wrap (t10+t1)) fun (t12:Int)=>
 outK (z25b Try.prog h_9 76 [.int .i64 t12]) fun v13 h_17=>
 chk (z86 Try.prog h_17 46 t16 v17&&(true&&true))<|
 outK (z90 Try.prog h_17 46 v13 none (some (.int .i64 t18))) fun v19 h_20=>
 obind (z53 t0) fun t22=>
 obind (z27 1 t22) fun t23=>
 obind (zc h_20 t23) fun v24=>
 outK (z30f Try.prog h_20 46 v19 v24) fun v25 h_26=>
 obind (z17 .i64 v25) fun _=>
 obind (z53 t0) fun t28=>
 obind (z27 1 t28) fun t29=>
 obind (z22 h_26 1 (AV.cells v19) t29) fun h_31=>
 some (.ret (.tup []),h_31)
set_option maxHeartbeats 4000000 in
set_option maxRecDepth 20000 in
theorem z18c{call:z10}(hc:SaysAll Try.prog call){n:Nat}{t0:AV}{t1:Int}{h:AHeap}{rR:ARes}{hR:AHeap}(hF:z52 call n t0 t1 h=some (rR,hR)):Says Try.prog 58 [t0,.int .i64 t1] h rR hR:=by
 unfold z52 at hF;refine sO Try.func58 fun w0 m0=>wW [(0,t0),(1,.int .i64 t1)] (oG fun n1=>W.draw (by kernel_rfl) (hc.ok w0) (plan:=[0,1,2,3,6,9,10,11,12,13,4,5,7,8,14,15]) (by kernel_rfl) (by kernel_rfl) (by kernel_rfl) (WD.a 0 (some 5) t0 h ?_));obtain⟨t6,e2,hF⟩:=z4 hF;refine WD.b 0 (some 6) t6 h (z2b (h:=h) e2) ?_;obtain⟨t7,e3,hF⟩:=z4 hF;refine WD.b 0 (some 7) t7 h (z15 (P:=Try.prog) (h:=h) (s:=89) (f:=1) (by kernel_rfl) e3) ?_;obtain⟨v8,e4,hF⟩:=z4 hF;refine WD.b 1 (some 8) v8 h (z14 (P:=Try.prog) (h:=h) (t:=46) (by kernel_rfl) e4) (WD.a 0 (some 11) (.int .i64 t1) h (WD.a 0 (some 14) t0 h ?_));obtain⟨t15,e5,hF⟩:=z4 hF;refine WD.b 0 (some 15) t15 h (z2b (h:=h) e5) ?_;obtain⟨t16,e6,hF⟩:=z4 hF;refine WD.b 0 (some 16) t16 h (z15 (P:=Try.prog) (h:=h) (s:=89) (f:=1) (by kernel_rfl) e6) ?_;obtain⟨v17,e7,hF⟩:=z4 hF;refine WD.b 1 (some 17) v17 h (z14 (P:=Try.prog) (h:=h) (t:=46) (by kernel_rfl) e7) ?_;obtain⟨t18,e8,hF⟩:=z4 hF;refine WD.b 0 (some 18) (.int .i64 t18) h (z1b7 (P:=Try.prog) (h:=h) (t:=46) (e':=5) (by kernel_rfl) e8) ?_
 replace hF:=z1c hF;obtain⟨v9,h_9,e10,hF⟩:=hF
 replace hF:=z4 hF;obtain⟨t9,c11,hF⟩:=hF
 have c11:=z1a c11;subst c11;obtain⟨k12,hF⟩:=z74 hF;refine WD.val (d:=(some 9)) (v:=.int .i64 t9) (h':=h_9) (by kernel_rfl) (by kernel_rfl) (Eq.trans (by kernel_rfl) e10) (k:=2) (by kernel_rfl) (fun _=>(Eq.trans (by kernel_rfl) k12)) (by decide) ?_;obtain⟨t10,e13,hF⟩:=z6 hF;refine WD.val (d:=(some 10)) (v:=.int .i64 t10) (h':=h_9) (by kernel_rfl) (by kernel_rfl) (z38 (AV.int .i64) e13 (by kernel_rfl)) (k:=0) (by kernel_rfl) (fun e=>absurd e (by decide)) (by decide) ?_;obtain⟨t12,e14,hF⟩:=z6 hF;refine WD.val (d:=(some 12)) (v:=.int .i64 t12) (h':=h_9) (by kernel_rfl) (by kernel_rfl) (z38 (AV.int .i64) e14 (by kernel_rfl)) (k:=0) (by kernel_rfl) (fun e=>absurd e (by decide)) (by decide) ?_;obtain⟨v13,h_17,e18,hF⟩:=z1c hF;obtain⟨k19,hF⟩:=z74 hF;refine WD.val (d:=(some 13)) (v:=v13) (h':=h_17) (by kernel_rfl) (by kernel_rfl) (Eq.trans (by kernel_rfl) e18) (k:=2) (by kernel_rfl) (fun _=>(Eq.trans (by kernel_rfl) k19)) (by decide) ?_;obtain⟨v19,h_20,e21,hF⟩:=z1c hF;refine WD.b 0 (some 19) v19 h_20 e21 (WD.a 0 (some 4) v19 h_20 (WD.nil (gW [(0,t0),(4,v19)] (n1 (oG fun n22=>W.r (oA 20 v19 (oA 21 t0 (oC0 22 hF fun t22 hF=>oF 23 89 1 hF fun t23 hF=>oL 24 46 hF fun v24 hF=>?_))))))))
 replace hF:=z1c hF;obtain⟨v25,h_26,e27,hF⟩:=hF
 replace hF:=z4 hF;obtain⟨t25,c28,hF⟩:=hF
 have c28:=z1a c28;subst c28;exact WL.b (some 25) (.int .i64 t25) h_26 e27 (oV [(0,t0),(4,v19)] (n22 (W.r (oA 26 t0 (oA 27 v19 (oC0 28 hF fun t28 hF=>oF 29 89 1 hF fun t29 hF=>oW 46 v19 hF fun h_31 hF=>oV [] (lY hF [] [] zd)))))))
noncomputable def za1(t0:AV)(t40:Int)(k25:Int→AHeap→R)(self:Int→Int→AHeap→R)(t5_71:Int)(t41:Int)(h_72:AHeap):R:=lett (decide (t41<t40)) fun (t42:Bool)=>ifB t42 (obind (z150 1 t0 t41) fun t43=>obind (zc h_72 t43) fun v44=>obind (z20 v44) fun t44=>lett (IntKind.i64.wrap (9223372036854775807 - t5_71)) fun (t48:Int)=>lett (decide ((z3b t44)>t48)) fun (t49:Bool)=>lett (fun (h_87:AHeap)=>lett (IntKind.i64.wrap (t5_71+(z3b t44))) fun (t54:Int)=>lett (IntKind.i64.wrap (t41+1)) fun (t55:Int)=>self t54 t55 h_87) fun k86=>ifB t49 (panK (AV.ifc 9 (z5 ([115,116,114,105,110,103,115,58,32,74,111,105,110,32,111,117,116,112,117,116,32,108,101,110,103,116,104,32,111,118,101,114,102,108,111,119]:Bytes))) h_72) (k86 h_72)) (k25 t5_71 h_72)
noncomputable def zb6(t0:AV)(t40:Int)(k25:Int→AHeap→R):Nat→Int→Int→AHeap→R:=z122 (fun _ _ _=>none) (za1 t0 t40 k25)
theorem z115(t0:AV)(t40:Int)(k25:Int→AHeap→R)(m:Nat):zb6 t0 t40 k25 (m+1)=za1 t0 t40 k25 (zb6 t0 t40 k25 m):=rfl
noncomputable def z5f(call:z10)(t1:Bytes)(h_27:AHeap)(v63:AV)(t64:Int)(k46:AHeap→R)(self:Int→AHeap→R)(t65:Int)(h_53:AHeap):R:=lett (decide (t65<t64)) fun (t66:Bool)=>ifB t66 (obind (z150 1 v63 t65) fun t67=>obind (zc h_53 t67) fun v68=>obind (z20 v68) fun t68=>callN (call 34 [(z13 h_27),z5 t1] h_53) fun _ h_64=>callN (call 34 [(z13 h_27),z5 t68] h_64) fun _ h_66=>lett (IntKind.i64.wrap (t65+1)) fun (t73:Int)=>self t73 h_66) (k46 h_53)
noncomputable def z8f(call:z10)(t1:Bytes)(h_27:AHeap)(v63:AV)(t64:Int)(k46:AHeap→R):Nat→Int→AHeap→R:=z122 (fun _ _=>none) (z5f call t1 h_27 v63 t64 k46)
theorem z8e(call:z10)(t1:Bytes)(h_27:AHeap)(v63:AV)(t64:Int)(k46:AHeap→R)(m:Nat):z8f call t1 h_27 v63 t64 k46 (m+1)=z5f call t1 h_27 v63 t64 k46 (z8f call t1 h_27 v63 t64 k46 m):=rfl
noncomputable def zb7(call:z10)(n:Nat)(t0:AV)(t1:Bytes)(h:AHeap):R:=obind (z12d t0) fun t12=>lett ((t12:Int) == 0) fun (t14:Bool)=>ifB t14 (some (.ret (z5 ([]:Bytes)),h)) (lett ((t12:Int) == 1) fun (t16:Bool)=>ifB t16 (obind (z150 1 t0 0) fun t18=>obind (zc h t18) fun v19=>obind (z20 v19) fun t19=>some (.ret (z5 t19),h)) (lett (decide ((z3b t1)>0)) fun (t22:Bool)=>lett (fun (t5:Int) (h_20:AHeap)=>obind (z12d t0) fun t40=>lett (fun (t5_26:Int) (h_27:AHeap)=>lett (newH h_27 89 [.nilp,.nsl]) fun h_29=>callK (call 33 [(z13 h_27),.int .i64 t5_26] h_29) fun _ h_32=>obind (z150 1 t0 0) fun t59=>obind (zc h_32 t59) fun v60=>obind (z20 v60) fun t60=>callN (call 34 [(z13 h_27),z5 t60] h_32) fun _ h_38=>outK (z90 Try.prog h_38 81 t0 (some (.int .i64 1)) none) fun v63 h_42=>obind (z12d v63) fun t64=>lett (fun (h_47:AHeap)=>callN (call 36 [(z13 h_27)] h_47) fun r74 h_49=>obind (z20 r74) fun t74=>some (.ret (z5 t74),h_49)) fun k46=>z8f call t1 h_27 v63 t64 k46 n 0 h_42) fun k25=>zb6 t0 t40 k25 n t5 0 h_20) fun k19=>ifB t22 (obind (z12d t0) fun t26=>lett (IntKind.i64.wrap (t26 - 1)) fun (t27:Int)=>obind (z473 .i64 9223372036854775807 t27) fun t28=>lett (decide ((z3b t1)≥t28)) fun (t29:Bool)=>lett (fun (h_99:AHeap)=>obind (z12d t0) fun t35=>lett (IntKind.i64.wrap (t35 - 1)) fun (t36:Int)=>lett (IntKind.i64.wrap ((z3b t1)*t36)) fun (t37:Int)=>lett (IntKind.i64.wrap (0+t37)) fun (t38:Int)=>k19 t38 h_99) fun k98=>ifB t29 (panK (AV.ifc 9 (z5 ([115,116,114,105,110,103,115,58,32,74,111,105,110,32,111,117,116,112,117,116,32,108,101,110,103,116,104,32,111,118,101,114,102,108,111,119]:Bytes))) h) (k98 h)) (k19 0 h)))
set_option maxHeartbeats 4000000 in
set_option maxRecDepth 20000 in
theorem z29b{call:z10}(hc:SaysAll Try.prog call){n:Nat}{t0:AV}{t1:Bytes}{h:AHeap}{rR:ARes}{hR:AHeap}(hF:zb7 call n t0 t1 h=some (rR,hR)):Says Try.prog 80 [t0,z5 t1] h rR hR:=by
 unfold zb7 at hF;refine sO Try.func80 fun w0 m0=>wW [(0,t0),(1,z5 t1)] (oG fun n1=>W.r (oA 4 (z5 ([]:Bytes)) (oV [(0,t0),(1,z5 t1)] (n1 (oH fun n2 q2=>oG fun n3=>W.r (oA 11 t0 (oM 12 81 9 hF fun t12 hF=>oV [(0,t0),(1,z5 t1),(12,.int .i64 t12)] (n3 (W.blockK (by kernel_rfl) (fun K5 n5 s5 o5 q5 p5=>oG fun n6=>W.r (oB 14 hF fun t14 hF=>oA 13 (.bool t14) (oV [(0,t0),(1,z5 t1),(12,.int .i64 t12),(13,.bool t14)] (n6 ?_)))))))))))))
 cases t14 with
 |true=>
  exact oT hF fun hF=>oG fun n8=>W.r (oA 4 (z5 ([]:Bytes)) (oV [(4,z5 ([]:Bytes))] (n8 (oY (q5 (q2 (lZ hF [.tmp 4] [z5 ([]:Bytes)] (rT zd))))))))
 |false=>
  refine oU hF fun hF=>oG fun n9=>W.r (oB 16 hF fun t16 hF=>oA 15 (.bool t16) (oV [(0,t0),(1,z5 t1),(15,.bool t16)] (n9 ?_)))
  cases t16 with
  |true=>
   exact oT hF fun hF=>oG fun n11=>W.r (oA 17 t0 (oP 18 81 9 .i64 hF fun t18 hF=>oLs 19 9 hF fun t19 hF=>oA 4 (z5 t19) (oV [(4,z5 t19)] (n11 (oY (q5 (q2 (lZ hF [.tmp 4] [z5 t19] (rT zd)))))))))
  |false=>
   refine oU hF fun hF=>oZ (n5 (n2 (oG fun n15=>W.r (oA 5 (.int .i64 0) (oV [(0,t0),(1,z5 t1),(5,.int .i64 0)] (n15 (W.s (fun K16 n16 e16 q16 p16=>oG fun n17=>W.r (oA 20 (z5 t1) (oA 21 (.int .i64 (z3b t1)) (oB 22 hF fun t22 hF=>oV [(0,t0),(1,z5 t1),(5,.int .i64 0),(22,.bool t22)] (n17 ?_))))))))))));obtain⟨k19,e19,hF⟩:=z6 hF
   have J19:∀(t5:Int) (h_20:AHeap),k19 t5 h_20=some (rR,hR)→Go w0 m0 (Func.ntmps Try.f80) (K16 .normal) [(0,t0),(1,z5 t1),(5,.int .i64 t5)] [] h_20:=by
    intro t5 h_20 hF;rw[e19] at hF;refine n16 (W.s (fun K21 n21 e21 q21 p21=>oG fun n22=>W.r (oA 39 t0 (oM 40 81 9 hF fun t40 hF=>oA 41 (.int .i64 0) (oV [(0,t0),(1,z5 t1),(5,.int .i64 t5),(39,t0),(40,.int .i64 t40),(41,.int .i64 0)] (n22 ?_))))));obtain⟨k25,e25,hF⟩:=z6 hF
    have J25:∀(t5_26:Int) (h_27:AHeap),k25 t5_26 h_27=some (rR,hR)→Go w0 m0 (Func.ntmps Try.f80) (K21 .normal) [(0,t0),(1,z5 t1),(5,.int .i64 t5_26)] [] h_27:=by
     intro t5_26 h_27 hF;rw[e25] at hF;refine n21 (oG fun n28=>W.r (oN 8 hF fun h_29 hF=>oV [(0,t0),(1,z5 t1),(5,.int .i64 t5_26),(8,(z13 h_27))] (n28 (oJ fun n31 p31=>W.r (oA 56 (.int .i64 t5_26) (oCK hc (some 57) hF (fun q=>p31 (Pf q)) fun r57 h_32 hF=>oV [(0,t0),(1,z5 t1),(8,(z13 h_27))] (n31 (oG fun n34=>W.r (oA 58 t0 (oP 59 81 9 .i64 hF fun t59 hF=>oLs 60 9 hF fun t60 hF=>oC hc (some 61) hF fun r61 h_38 hF=>oV [(0,t0),(1,z5 t1),(8,(z13 h_27))] (n34 (W.s (fun K40 n40 e40 q40 p40=>oG fun n41=>W.r (oA 62 t0 (oK 63 hF fun v63 h_42 hF=>oM 64 81 9 hF fun t64 hF=>oA 65 (.int .i64 0) (oV [(1,z5 t1),(8,(z13 h_27)),(63,v63),(64,.int .i64 t64),(65,.int .i64 0)] (n41 ?_)))))))))))))))));obtain⟨k46,e46,hF⟩:=z6 hF
     have J46:∀(h_47:AHeap),k46 h_47=some (rR,hR)→Go w0 m0 (Func.ntmps Try.f80) (K40 .normal) [(8,(z13 h_27))] [] h_47:=by
      intro h_47 hF;rw[e46] at hF;exact n40 (oG fun n48=>W.r (oCs hc 74 hF fun t74 h_49 hF=>oA 4 (z5 t74) (oV [(4,z5 t74)] (n48 (oY (lZ hF [.tmp 4] [z5 t74] (rT zd)))))))
     refine W.blockK (by kernel_rfl) (fun K45 n45 s45 o45 q45 p45=>W.loopK (by kernel_rfl) (fun I52 K52 b52 n52 e52 q52 p52=>?_))
     have L52:∀(m:Nat) (t65:Int) (h_53:AHeap),z8f call t1 h_27 v63 t64 k46 m t65 h_53=some (rR,hR)→Go w0 m0 (Func.ntmps Try.f80) I52 [(1,z5 t1),(8,(z13 h_27)),(63,v63),(64,.int .i64 t64),(65,.int .i64 t65)] [] h_53:=by
      intro m
      induction m with
      |zero=>intro t65 h_53 hF;cases hF
      |succ m ih52=>
       intro t65 h_53 hF;rw[z8e] at hF;unfold z5f at hF;refine b52 (oG fun n54=>W.r (oB 66 hF fun t66 hF=>oV [(1,z5 t1),(8,(z13 h_27)),(63,v63),(64,.int .i64 t64),(65,.int .i64 t65),(66,.bool t66)] (n54 (W.s (fun K56 n56 e56 q56 p56=>?_)))))
       cases t66 with
       |true=>
        exact oT hF fun hF=>oZ (n56 (oG fun n57=>W.blockK (by kernel_rfl) (fun K58 n58 s58 o58 q58 p58=>oG fun n59=>W.r (oP 67 81 9 .i64 hF fun t67 hF=>oLs 68 9 hF fun t68 hF=>oA 10 (z5 t68) (oV [(1,z5 t1),(8,(z13 h_27)),(10,z5 t68),(63,v63),(64,.int .i64 t64),(65,.int .i64 t65)] (n59 (oG fun n63=>W.r (oA 69 (z5 t1) (oC hc (some 70) hF fun r70 h_64 hF=>oV [(1,z5 t1),(8,(z13 h_27)),(10,z5 t68),(63,v63),(64,.int .i64 t64),(65,.int .i64 t65)] (n63 (W.r (oA 71 (z5 t68) (oC hc (some 72) hF fun r72 h_66 hF=>oV [(1,z5 t1),(8,(z13 h_27)),(63,v63),(64,.int .i64 t64),(65,.int .i64 t65)] (n58 (n57 (W.r (oI 73 .i64 hF fun t73 hF=>oA 65 (.int .i64 t73) (oV [(1,z5 t1),(8,(z13 h_27)),(63,v63),(64,.int .i64 t64),(65,.int .i64 t73)] (n52 (gW _ (ih52 _ _ hF)))))))))))))))))))))
       |false=>
        exact oU hF fun hF=>W.exit (by kernel_rfl) (e56 (e52 (s45 (by kernel_rfl) (gW _ (J46 _ hF)))))
     exact gW _ (L52 _ _ _ hF)
    refine W.blockK (by kernel_rfl) (fun K24 n24 s24 o24 q24 p24=>W.loopK (by kernel_rfl) (fun I70 K70 b70 n70 e70 q70 p70=>?_))
    have L70:∀(m:Nat) (t5_71:Int) (t41:Int) (h_72:AHeap),zb6 t0 t40 k25 m t5_71 t41 h_72=some (rR,hR)→Go w0 m0 (Func.ntmps Try.f80) I70 [(0,t0),(1,z5 t1),(5,.int .i64 t5_71),(39,t0),(40,.int .i64 t40),(41,.int .i64 t41)] [] h_72:=by
     intro m
     induction m with
     |zero=>intro t5_71 t41 h_72 hF;cases hF
     |succ m ih70=>
      intro t5_71 t41 h_72 hF;rw[z115] at hF;unfold za1 at hF;refine b70 (oG fun n73=>W.r (oB 42 hF fun t42 hF=>oV [(0,t0),(1,z5 t1),(5,.int .i64 t5_71),(39,t0),(40,.int .i64 t40),(41,.int .i64 t41),(42,.bool t42)] (n73 (W.s (fun K75 n75 e75 q75 p75=>?_)))))
      cases t42 with
      |true=>
       refine oT hF fun hF=>oZ (n75 (oJ fun n76 p76=>W.blockK (by kernel_rfl) (fun K77 n77 s77 o77 q77 p77=>oG fun n78=>W.r (oP 43 81 9 .i64 hF fun t43 hF=>oLs 44 9 hF fun t44 hF=>oA 7 (z5 t44) (oV [(0,t0),(1,z5 t1),(5,.int .i64 t5_71),(7,z5 t44),(39,t0),(40,.int .i64 t40),(41,.int .i64 t41)] (n78 (W.s (fun K82 n82 e82 q82 p82=>oG fun n83=>W.r (oA 45 (z5 t44) (oA 46 (.int .i64 (z3b t44)) (oA 47 (.int .i64 t5_71) (oI 48 .i64 hF fun t48 hF=>oB 49 hF fun t49 hF=>oV [(0,t0),(1,z5 t1),(5,.int .i64 t5_71),(7,z5 t44),(39,t0),(40,.int .i64 t40),(41,.int .i64 t41),(49,.bool t49)] (n83 ?_)))))))))))));obtain⟨k86,e86,hF⟩:=z6 hF
       have J86:∀(h_87:AHeap),k86 h_87=some (rR,hR)→Go w0 m0 (Func.ntmps Try.f80) (K82 .normal) [(0,t0),(1,z5 t1),(5,.int .i64 t5_71),(7,z5 t44),(39,t0),(40,.int .i64 t40),(41,.int .i64 t41)] [] h_87:=by
        intro h_87 hF;rw[e86] at hF;exact n82 (W.r (oA 51 (.int .i64 t5_71) (oA 52 (z5 t44) (oA 53 (.int .i64 (z3b t44)) (oI 54 .i64 hF fun t54 hF=>oA 5 (.int .i64 t54) (oV [(0,t0),(1,z5 t1),(5,.int .i64 t54),(39,t0),(40,.int .i64 t40),(41,.int .i64 t41)] (n77 (n76 (W.r (oI 55 .i64 hF fun t55 hF=>oA 41 (.int .i64 t55) (oV [(0,t0),(1,z5 t1),(5,.int .i64 t54),(39,t0),(40,.int .i64 t40),(41,.int .i64 t55)] (n70 (gW _ (ih70 _ _ _ hF))))))))))))))
       cases t49 with
       |true=>
        refine oT hF fun hF=>W.r (oA 50 (AV.ifc 9 (z5 ([115,116,114,105,110,103,115,58,32,74,111,105,110,32,111,117,116,112,117,116,32,108,101,110,103,116,104,32,111,118,101,114,102,108,111,119]:Bytes))) ?_)
        replace hF:=z2ac hF;obtain⟨a91t,a91v,e90,e902⟩:=hF
        cases e902
        exact WL.pan (d:=none) (by kernel_rfl) (by kernel_rfl) (Eq.trans (by kernel_rfl) (congrArg (fun x=>z2ae _ (some x)) e90)) (p82 (p77 (p76 (p70 (p24 (p21 y3f))))))
       |false=>
        exact oU hF fun hF=>oZ (gW _ (J86 _ hF))
      |false=>
       exact oU hF fun hF=>W.exit (by kernel_rfl) (e75 (e70 (s24 (by kernel_rfl) (gW _ (J25 _ _ hF)))))
    exact gW _ (L70 _ _ _ _ hF)
   cases t22 with
   |true=>
    refine oT hF fun hF=>W.s (fun K92 n92 e92 q92 p92=>oG fun n93=>W.r (oA 23 (z5 t1) (oA 24 (.int .i64 (z3b t1)) (oA 25 t0 (oM 26 81 9 hF fun t26 hF=>oI 27 .i64 hF fun t27 hF=>?_)))));obtain⟨t28,e96,hF⟩:=z4 hF;refine WL.b (some 28) (.int .i64 t28) h (z34e (P:=Try.prog) (h:=h) (t:=3) (lit:=true) e96) (oB 29 hF fun t29 hF=>oV [(0,t0),(1,z5 t1),(5,.int .i64 0),(29,.bool t29)] (n93 ?_));obtain⟨k98,e98,hF⟩:=z6 hF
    have J98:∀(h_99:AHeap),k98 h_99=some (rR,hR)→Go w0 m0 (Func.ntmps Try.f80) (K92 .normal) [(0,t0),(1,z5 t1),(5,.int .i64 0)] [] h_99:=by
     intro h_99 hF;rw[e98] at hF;exact n92 (W.r (oA 31 (.int .i64 0) (oA 32 (z5 t1) (oA 33 (.int .i64 (z3b t1)) (oA 34 t0 (oM 35 81 9 hF fun t35 hF=>oI 36 .i64 hF fun t36 hF=>oI 37 .i64 hF fun t37 hF=>oI 38 .i64 hF fun t38 hF=>oA 5 (.int .i64 t38) (oV [(0,t0),(1,z5 t1),(5,.int .i64 t38)] (gW _ (J19 _ _ hF)))))))))
    cases t29 with
    |true=>
     refine oT hF fun hF=>W.r (oA 30 (AV.ifc 9 (z5 ([115,116,114,105,110,103,115,58,32,74,111,105,110,32,111,117,116,112,117,116,32,108,101,110,103,116,104,32,111,118,101,114,102,108,111,119]:Bytes))) ?_)
     replace hF:=z2ac hF;obtain⟨a105t,a105v,e104,e1042⟩:=hF
     cases e1042
     exact WL.pan (d:=none) (by kernel_rfl) (by kernel_rfl) (Eq.trans (by kernel_rfl) (congrArg (fun x=>z2ae _ (some x)) e104)) (p92 (p16 y3f))
    |false=>
     exact oU hF fun hF=>oZ (gW _ (J98 _ hF))
   |false=>
    exact oU hF fun hF=>oZ (gW _ (J19 _ _ hF))
noncomputable def z35(call:z10)(_:Nat)(t0:AV)(t1:Int)(h:AHeap):R:=callN (call 81 [t0,.int .i64 t1] h) fun r7 h_3=>obind (z17 .i64 r7) fun t7=>lett (decide (t7≥0)) fun (t8:Bool)=>some (.ret (.bool t8),h_3)
set_option maxHeartbeats 4000000 in
set_option maxRecDepth 20000 in
theorem z137{call:z10}(hc:SaysAll Try.prog call){n:Nat}{t0:AV}{t1:Int}{h:AHeap}{rR:ARes}{hR:AHeap}(hF:z35 call n t0 t1 h=some (rR,hR)):Says Try.prog 62 [t0,.int .i64 t1] h rR hR:=by
 unfold z35 at hF;exact sO Try.func62 fun w0 m0=>wW [(0,t0),(1,.int .i64 t1)] (oG fun n1=>W.r (oA 4 (.bool false) (oV [(0,t0),(1,.int .i64 t1)] (n1 (oG fun n2=>W.r (oA 5 t0 (oA 6 (.int .i64 t1) (oCi hc 7 hF fun t7 h_3 hF=>oB 8 hF fun t8 hF=>oA 4 (.bool t8) (oV [(4,.bool t8)] (n2 (oY (lZ hF [.tmp 4] [.bool t8] (rT zd)))))))))))))
noncomputable def z42(t0:AV)(t1:Int)(t7:Int)(k6:AHeap→R)(self:Int→AHeap→R)(t8:Int)(h_10:AHeap):R:=lett (decide (t8<t7)) fun (t9:Bool)=>ifB t9 (obind (z150 1 t0 t8) fun t14=>obind (zc h_10 t14) fun v15=>obind (z17 .i64 v15) fun t15=>lett ((t1:Int) == t15) fun (t16:Bool)=>ifB t16 (some (.ret (.int .i64 t8),h_10)) (lett (IntKind.i64.wrap (t8+1)) fun (t18:Int)=>self t18 h_10)) (k6 h_10)
noncomputable def z47(t0:AV)(t1:Int)(t7:Int)(k6:AHeap→R):Nat→Int→AHeap→R:=z122 (fun _ _=>none) (z42 t0 t1 t7 k6)
theorem z63(t0:AV)(t1:Int)(t7:Int)(k6:AHeap→R)(m:Nat):z47 t0 t1 t7 k6 (m+1)=z42 t0 t1 t7 k6 (z47 t0 t1 t7 k6 m):=rfl
noncomputable def z36(_:z10)(n:Nat)(t0:AV)(t1:Int)(h:AHeap):R:=obind (z12d t0) fun t7=>lett (fun (h_7:AHeap)=>some (.ret (.int .i64 (-1)),h_7)) fun k6=>z47 t0 t1 t7 k6 n 0 h
set_option maxHeartbeats 4000000 in
set_option maxRecDepth 20000 in
theorem z16a{call:z10}(_:SaysAll Try.prog call){n:Nat}{t0:AV}{t1:Int}{h:AHeap}{rR:ARes}{hR:AHeap}(hF:z36 call n t0 t1 h=some (rR,hR)):Says Try.prog 81 [t0,.int .i64 t1] h rR hR:=by
 unfold z36 at hF;refine sO Try.func81 fun w0 m0=>wW [(0,t0),(1,.int .i64 t1)] (oG fun n1=>W.r (oA 4 (.int .i64 0) (oV [(0,t0),(1,.int .i64 t1)] (n1 (W.s (fun K2 n2 e2 q2 p2=>oG fun n3=>W.r (oA 6 t0 (oM 7 44 3 hF fun t7 hF=>oA 8 (.int .i64 0) (oV [(0,t0),(1,.int .i64 t1),(7,.int .i64 t7),(8,.int .i64 0)] (n3 ?_))))))))));obtain⟨k6,e6,hF⟩:=z6 hF
 have J6:∀(h_7:AHeap),k6 h_7=some (rR,hR)→Go w0 m0 (Func.ntmps Try.f81) (K2 .normal) [] [] h_7:=by
  intro h_7 hF;rw[e6] at hF;exact n2 (oG fun n8=>W.r (oA 4 (.int .i64 (-1)) (oV [(4,.int .i64 (-1))] (n8 (oY (lZ hF [.tmp 4] [.int .i64 (-1)] (rT zd)))))))
 refine W.blockK (by kernel_rfl) (fun K5 n5 s5 o5 q5 p5=>W.loopK (by kernel_rfl) (fun I9 K9 b9 n9 e9 q9 p9=>?_))
 have L9:∀(m:Nat) (t8:Int) (h_10:AHeap),z47 t0 t1 t7 k6 m t8 h_10=some (rR,hR)→Go w0 m0 (Func.ntmps Try.f81) I9 [(0,t0),(1,.int .i64 t1),(7,.int .i64 t7),(8,.int .i64 t8)] [] h_10:=by
  intro m
  induction m with
  |zero=>intro t8 h_10 hF;cases hF
  |succ m ih9=>
   intro t8 h_10 hF;rw[z63] at hF;unfold z42 at hF;refine b9 (oG fun n11=>W.r (oB 9 hF fun t9 hF=>oV [(0,t0),(1,.int .i64 t1),(7,.int .i64 t7),(8,.int .i64 t8),(9,.bool t9)] (n11 (W.s (fun K13 n13 e13 q13 p13=>?_)))))
   cases t9 with
   |true=>
    refine oT hF fun hF=>oZ (n13 (oH fun n14 q14=>W.blockK (by kernel_rfl) (fun K15 n15 s15 o15 q15 p15=>oG fun n16=>W.r (oA 10 (.int .i64 t8) (oA 5 (.int .i64 t8) (oV [(0,t0),(1,.int .i64 t1),(5,.int .i64 t8),(7,.int .i64 t7),(8,.int .i64 t8)] (n16 (oG fun n17=>W.r (oA 11 (.int .i64 t1) (oA 12 t0 (oA 13 (.int .i64 t8) (oP 14 44 3 .i64 hF fun t14 hF=>oLi 15 3 hF fun t15 hF=>oB 16 hF fun t16 hF=>oV [(0,t0),(1,.int .i64 t1),(5,.int .i64 t8),(7,.int .i64 t7),(8,.int .i64 t8),(16,.bool t16)] (n17 ?_)))))))))))))
    cases t16 with
    |true=>
     exact oT hF fun hF=>oG fun n22=>W.r (oA 17 (.int .i64 t8) (oA 4 (.int .i64 t8) (oV [(4,.int .i64 t8)] (n22 (oY (q15 (q14 (q9 (q5 (q2 (lZ hF [.tmp 4] [.int .i64 t8] (rT zd))))))))))))
    |false=>
     exact oU hF fun hF=>oZ (n15 (n14 (W.r (oI 18 .i64 hF fun t18 hF=>oA 8 (.int .i64 t18) (oV [(0,t0),(1,.int .i64 t1),(7,.int .i64 t7),(8,.int .i64 t18)] (n9 (gW _ (ih9 _ _ hF))))))))
   |false=>
    exact oU hF fun hF=>W.exit (by kernel_rfl) (e13 (e9 (s5 (by kernel_rfl) (gW _ (J6 _ hF)))))
 exact gW _ (L9 _ _ _ hF)
noncomputable def z148(_:z10)(_:Nat)(t0:Bytes)(h:AHeap):R:=
 lett (if 2048<(z3b t0) then 2048 else (z3b t0)) fun (t6:Int)=>
 obind (z43 t0 0 t6) fun t7=>
 some (.ret (z5 t7),h)
set_option maxHeartbeats 4000000 in
set_option maxRecDepth 20000 in
theorem z33d{call:z10}(_:SaysAll Try.prog call){n:Nat}{t0:Bytes}{h:AHeap}{rR:ARes}{hR:AHeap}(hF:z148 call n t0 h=some (rR,hR)):Says Try.prog 37 [z5 t0] h rR hR:=by
 unfold z148 at hF;refine sO Try.func37 fun w0 m0=>wW [(0,z5 t0)] (oG fun n1=>W.r (oA 2 (z5 ([]:Bytes)) (oV [(0,z5 t0)] (n1 (oG fun n2=>W.r (oA 3 (z5 t0) (oA 4 (z5 t0) (oA 5 (.int .i64 (z3b t0)) (oI 6 .i64 hF fun t6 hF=>?_)))))))));obtain⟨t7,e4,hF⟩:=z4 hF;exact WL.b (some 7) (z5 t7) h (z48 (P:=Try.prog) (h:=h) (t:=9) (A:=none) (B:=(some (.int .i64 t6))) (by kernel_rfl) (.inr ⟨rfl,rfl⟩) (.inl ⟨_,rfl⟩) e4) (oA 2 (z5 t7) (oV [(2,z5 t7)] (n2 (oY (lZ hF [.tmp 2] [z5 t7] (rT zd))))))
noncomputable def z118(call:z10)(_:Nat)(t0:Bytes)(h:AHeap):R:=callN (call 82 [z5 t0] h) fun r7 h_3=>obind (z166 0 r7) fun v8=>obind (z20 v8) fun t8=>obind (z166 1 r7) fun v9=>obind (z17 .i64 v9) fun _=>some (.ret (z5 t8),h_3)
set_option maxHeartbeats 4000000 in
set_option maxRecDepth 20000 in
theorem z2ec{call:z10}(hc:SaysAll Try.prog call){n:Nat}{t0:Bytes}{h:AHeap}{rR:ARes}{hR:AHeap}(hF:z118 call n t0 h=some (rR,hR)):Says Try.prog 65 [z5 t0] h rR hR:=by
 unfold z118 at hF;exact sO Try.func65 fun w0 m0=>wW [(0,z5 t0)] (oG fun n1=>W.r (oA 2 (z5 ([]:Bytes)) (oV [(0,z5 t0)] (n1 (oG fun n2=>W.r (oA 6 (z5 t0) (oC hc (some 7) hF fun r7 h_3 hF=>oA 5 r7 (oEs 8 hF fun t8 hF=>oEi 9 hF fun t9 hF=>oA 3 (z5 t8) (oA 4 (.int .i64 t9) (oV [(3,z5 t8)] (n2 (oG fun n9=>W.r (oA 10 (z5 t8) (oA 2 (z5 t8) (oV [(2,z5 t8)] (n9 (oY (lZ hF [.tmp 2] [z5 t8] (rT zd)))))))))))))))))))
noncomputable def za8(_:z10)(_:Nat)(t0:List AV)(h:AHeap):R:=outK (zd9 h 39 (some (.agg t0))) fun v1 h_2=>obind (z27 0 v1) fun t3=>obind (zc h_2 t3) fun v4=>obind (z17 .i64 v4) fun t4=>lett (decide (t4≥1)) fun (t5:Bool)=>lett (fun (t10:Bool) (h_9:AHeap)=>lett (fun (t15:Bool) (h_12:AHeap)=>lett (fun (t20:Bool) (h_15:AHeap)=>some (.ret (.bool t20),h_15)) fun j20=>ifB t15 (obind (z27 1 v1) fun t17=>obind (zc h_12 t17) fun v18=>obind (z17 .i64 v18) fun t18=>lett (decide (t18≤1099511627776)) fun (t19:Bool)=>j20 t19 h_12) (j20 false h_12)) fun j15=>ifB t10 (obind (z27 1 v1) fun t12=>obind (zc h_9 t12) fun v13=>obind (z17 .i64 v13) fun t13=>lett (decide (t13≥0)) fun (t14:Bool)=>j15 t14 h_9) (j15 false h_9)) fun j10=>ifB t5 (obind (z27 0 v1) fun t7=>obind (zc h_2 t7) fun v8=>obind (z17 .i64 v8) fun t8=>lett (decide (t8≤1048576)) fun (t9:Bool)=>j10 t9 h_2) (j10 false h_2)
set_option maxHeartbeats 4000000 in
set_option maxRecDepth 20000 in
theorem z244{call:z10}(_:SaysAll Try.prog call){n:Nat}{t0:List AV}{h:AHeap}{rR:ARes}{hR:AHeap}(hF:za8 call n t0 h=some (rR,hR)):Says Try.prog 41 [.agg t0] h rR hR:=by
 unfold za8 at hF;refine sO Try.func41 fun w0 m0=>wW [(0,.agg t0)] (oG fun n1=>W.r (oK 1 hF fun v1 h_2 hF=>oA 2 (.bool false) (oV [(1,v1)] (n1 (W.s (fun K4 n4 e4 q4 p4=>W.r (oF 3 39 0 hF fun t3 hF=>oLi 4 3 hF fun t4 hF=>oB 5 hF fun t5 hF=>oA 6 (.bool t5) ?_)))))));obtain⟨j10,e10,hF⟩:=z6 hF
 have J11:∀(t10:Bool) (h_9:AHeap),j10 t10 h_9=some (rR,hR)→WL Try.prog w0 m0 (Func.ntmps Try.f41) (Code.ops (y6 (y5 (z2a Try.f41)))) 8 K4 [(1,v1),(10,.bool t10)] [] h_9:=by
  intro t10 h_9 hF;rw[e10] at hF;refine oA 11 (.bool t10) ?_;obtain⟨j15,e13,hF⟩:=z6 hF
  have J14:∀(t15:Bool) (h_12:AHeap),j15 t15 h_12=some (rR,hR)→WL Try.prog w0 m0 (Func.ntmps Try.f41) (Code.ops (y6 (y5 (z2a Try.f41)))) 13 K4 [(1,v1),(15,.bool t15)] [] h_12:=by
   intro t15 h_12 hF;rw[e13] at hF;refine oA 16 (.bool t15) ?_;obtain⟨j20,e16,hF⟩:=z6 hF
   have J17:∀(t20:Bool) (h_15:AHeap),j20 t20 h_15=some (rR,hR)→WL Try.prog w0 m0 (Func.ntmps Try.f41) (Code.ops (y6 (y5 (z2a Try.f41)))) 18 K4 [(20,.bool t20)] [] h_15:=by
    intro t20 h_15 hF;rw[e16] at hF;exact oA 2 (.bool t20) (oV [(2,.bool t20)] (n4 (oY (lZ hF [.tmp 2] [.bool t20] (rT zd)))))
   cases t15 with
   |true=>
    replace hF:=z4f hF
    exact oF 17 39 1 hF fun t17 hF=>oLi 18 3 hF fun t18 hF=>oB 19 hF fun t19 hF=>oA 20 (.bool t19) (lW _ (J17 _ _ hF))
   |false=>
    replace hF:=z50 hF
    exact WL.o (some 17) (WL.o (some 18) (WL.o (some 19) (oA 20 (.bool false) (lW _ (J17 _ _ hF)))))
  cases t10 with
  |true=>
   replace hF:=z4f hF
   exact oF 12 39 1 hF fun t12 hF=>oLi 13 3 hF fun t13 hF=>oB 14 hF fun t14 hF=>oA 15 (.bool t14) (lW _ (J14 _ _ hF))
  |false=>
   replace hF:=z50 hF
   exact WL.o (some 12) (WL.o (some 13) (WL.o (some 14) (oA 15 (.bool false) (lW _ (J14 _ _ hF)))))
 cases t5 with
 |true=>
  replace hF:=z4f hF
  exact oF 7 39 0 hF fun t7 hF=>oLi 8 3 hF fun t8 hF=>oB 9 hF fun t9 hF=>oA 10 (.bool t9) (lW _ (J11 _ _ hF))
 |false=>
  replace hF:=z50 hF
  exact WL.o (some 7) (WL.o (some 8) (WL.o (some 9) (oA 10 (.bool false) (lW _ (J11 _ _ hF)))))
noncomputable def z117(_:z10)(_:Nat)(t0:List AV)(h:AHeap):R:=outK (zd9 h 110 (some (.agg t0))) fun v1 h_2=>obind (z169 2 5 v1 1) fun t3=>obind (z27 1 t3) fun t4=>obind (zc h_2 t4) fun v5=>obind (z33 v5) fun t5=>lett (fun (t22:Bool) (h_10:AHeap)=>ifB t22 (some (.ret (.int .i64 1),h_10)) (some (.ret (.int .i64 0),h_10))) fun j22=>ifB t5 (obind (z169 2 5 v1 0) fun t7=>obind (z27 1 t7) fun t8=>obind (zc h_2 t8) fun v9=>obind (z33 v9) fun t9=>lett (!t9) fun (t10:Bool)=>lett (fun (t21:Bool) (h_20:AHeap)=>j22 t21 h_20) fun j21=>ifB t10 (j21 true h_2) (obind (z169 2 5 v1 1) fun t12=>obind (z27 2 t12) fun t13=>obind (z27 0 t13) fun t14=>obind (zc h_2 t14) fun v15=>obind (z17 .i64 v15) fun t15=>obind (z169 2 5 v1 0) fun t16=>obind (z27 2 t16) fun t17=>obind (z27 0 t17) fun t18=>obind (zc h_2 t18) fun v19=>obind (z17 .i64 v19) fun t19=>lett (decide (t15>t19)) fun (t20:Bool)=>j21 t20 h_2)) (j22 false h_2)
set_option maxHeartbeats 4000000 in
set_option maxRecDepth 20000 in
theorem z2eb{call:z10}(_:SaysAll Try.prog call){n:Nat}{t0:List AV}{h:AHeap}{rR:ARes}{hR:AHeap}(hF:z117 call n t0 h=some (rR,hR)):Says Try.prog 40 [.agg t0] h rR hR:=by
 unfold z117 at hF;refine sO Try.func40 fun w0 m0=>wW [(0,.agg t0)] (oG fun n1=>W.r (oK 1 hF fun v1 h_2 hF=>oA 2 (.int .i64 0) (oV [(1,v1)] (n1 (oH fun n4 q4=>W.s (fun K5 n5 e5 q5 p5=>W.r (oQ 3 110 109 .i64 hF fun t3 hF=>oF 4 109 1 hF fun t4 hF=>oLb 5 4 hF fun t5 hF=>oA 6 (.bool t5) ?_)))))));obtain⟨j22,e11,hF⟩:=z6 hF
 have J12:∀(t22:Bool) (h_10:AHeap),j22 t22 h_10=some (rR,hR)→WL Try.prog w0 m0 (Func.ntmps Try.f40) (Code.ops (y6 (y6 (y5 (z2a Try.f40))))) 20 K5 [(22,.bool t22)] [] h_10:=by
  intro t22 h_10 hF;rw[e11] at hF;refine oV [(22,.bool t22)] (n5 ?_)
  cases t22 with
  |true=>
   exact oT hF fun hF=>oG fun n13=>W.r (oA 2 (.int .i64 1) (oV [(2,.int .i64 1)] (n13 (oY (q4 (lZ hF [.tmp 2] [.int .i64 1] (rT zd)))))))
  |false=>
   exact oU hF fun hF=>oZ (n4 (oG fun n14=>W.r (oA 2 (.int .i64 0) (oV [(2,.int .i64 0)] (n14 (oY (lZ hF [.tmp 2] [.int .i64 0] (rT zd))))))))
 cases t5 with
 |true=>
  replace hF:=z4f hF
  refine oQ 7 110 109 .i64 hF fun t7 hF=>oF 8 109 1 hF fun t8 hF=>oLb 9 4 hF fun t9 hF=>oB 10 hF fun t10 hF=>oA 11 (.bool t10) ?_;obtain⟨j21,e21,hF⟩:=z6 hF
  have J22:∀(t21:Bool) (h_20:AHeap),j21 t21 h_20=some (rR,hR)→WL Try.prog w0 m0 (Func.ntmps Try.f40) (Code.ops (y6 (y6 (y5 (z2a Try.f40))))) 19 K5 [(6,.bool true),(21,.bool t21)] [] h_20:=by
   intro t21 h_20 hF;rw[e21] at hF;exact oA 22 (.bool t21) (lW _ (J12 _ _ hF))
  cases t10 with
  |true=>
   replace hF:=z4f hF
   exact WL.o (some 12) (WL.o (some 13) (WL.o (some 14) (WL.o (some 15) (WL.o (some 16) (WL.o (some 17) (WL.o (some 18) (WL.o (some 19) (WL.o (some 20) (oA 21 (.bool true) (lW _ (J22 _ _ hF)))))))))))
  |false=>
   replace hF:=z50 hF
   exact oQ 12 110 109 .i64 hF fun t12 hF=>oF 13 109 2 hF fun t13 hF=>oF 14 39 0 hF fun t14 hF=>oLi 15 3 hF fun t15 hF=>oQ 16 110 109 .i64 hF fun t16 hF=>oF 17 109 2 hF fun t17 hF=>oF 18 39 0 hF fun t18 hF=>oLi 19 3 hF fun t19 hF=>oB 20 hF fun t20 hF=>oA 21 (.bool t20) (lW _ (J22 _ _ hF))
 |false=>
  replace hF:=z50 hF
  exact WL.o (some 7) (WL.o (some 8) (WL.o (some 9) (WL.o (some 10) (WL.o (some 11) (WL.o (some 12) (WL.o (some 13) (WL.o (some 14) (WL.o (some 15) (WL.o (some 16) (WL.o (some 17) (WL.o (some 18) (WL.o (some 19) (WL.o (some 20) (WL.o (some 21) (oA 22 (.bool false) (lW _ (J12 _ _ hF)))))))))))))))))
noncomputable def ze3(call:z10)(h_2:AHeap)(k37:AHeap→R)(self:Bytes→AHeap→R)(t1_44:Bytes)(h_45:AHeap):R:=lett (!eqS t1_44 ([]:Bytes)) fun (t25:Bool)=>ifB t25 (callN (call 37 [z5 t1_44] h_45) fun r27 h_51=>obind (z20 r27) fun t27=>callN (call 65 [z5 t27] h_51) fun r29 h_55=>obind (z20 r29) fun t29=>callN (call 34 [(z13 h_2),z5 t29] h_55) fun _ h_58=>obind (z43 t1_44 (z3b t27) (z3b t1_44)) fun t34=>self t34 h_58) (k37 h_45)
noncomputable def zb9(call:z10)(h_2:AHeap)(k37:AHeap→R):Nat→Bytes→AHeap→R:=z122 (fun _ _=>none) (ze3 call h_2 k37)
theorem z179(call:z10)(h_2:AHeap)(k37:AHeap→R)(m:Nat):zb9 call h_2 k37 (m+1)=ze3 call h_2 k37 (zb9 call h_2 k37 m):=rfl
noncomputable def zf0(call:z10)(n:Nat)(t0:List AV)(t1:Bytes)(h:AHeap):R:=
 outK (zd9 h 39 (some (.agg t0))) fun v2 h_2=>
 lett (newH h_2 89 [.nilp,.nsl]) fun h_5=>
 obind (z27 0 v2) fun t7=>
 obind (zc h_5 t7) fun v8=>
 obind (z17 .i64 v8) fun t8=>
 lett (IntKind.u64.wrap t8) fun (t9:Int)=>
 obind (z27 1 v2) fun t12=>
 obind (zc h_5 t12) fun v13=>
 obind (z17 .i64 v13) fun t13=>
 lett (IntKind.u64.wrap t13) fun (t14:Int)=>
 lett (IntKind.u64.wrap (z3b t1)) fun (t19:Int)=>
 callN (call 66 [.int .u64 t9] h_5) fun r10 h_17=>
 obind (z20 r10) fun t10=>
 chk (z86 Try.prog h_17 3 t12 (.int .i64 t13)&&(true&&true))<|
 obind (z37b ([115,110,97,112,115,104,111,116]:Bytes) t10) fun t11=>
 callN (call 66 [.int .u64 t14] h_17) fun r15 h_22=>
 obind (z20 r15) fun t15=>
 obind (z37b t11 t15) fun t16=>
 callN (call 66 [.int .u64 t19] h_22) fun r20 h_26=>
 obind (z20 r20) fun t20=>
 obind (z37b t16 t20) fun t21=>
 callN (call 65 [z5 t21] h_26) fun r22 h_30=>
 obind (z20 r22) fun t22=>
 callN (call 34 [(z13 h_2),z5 t22] h_30) fun _ h_33=>
 lett (fun (h_38:AHeap)=>
  callN (call 36 [(z13 h_2)] h_38) fun r35 h_40=>
  obind (z20 r35) fun t35=>
  some (.ret (z5 t35),h_40)) fun k37=>
 zb9 call h_2 k37 n t1 h_33
set_option maxHeartbeats 4000000 in
set_option maxRecDepth 20000 in
theorem z29f{call:z10}(hc:SaysAll Try.prog call){n:Nat}{t0:List AV}{t1:Bytes}{h:AHeap}{rR:ARes}{hR:AHeap}(hF:zf0 call n t0 t1 h=some (rR,hR)):Says Try.prog 43 [.agg t0,z5 t1] h rR hR:=by
 unfold zf0 at hF;refine sO Try.func43 fun w0 m0=>wW [(0,.agg t0),(1,z5 t1)] (oG fun n1=>W.r (oK 2 hF fun v2 h_2 hF=>oA 4 (z5 ([]:Bytes)) (oV [(1,z5 t1),(2,v2)] (n1 (oG fun n4=>W.r (oN 5 hF fun h_5 hF=>oV [(1,z5 t1),(2,v2),(5,(z13 h_2))] (n4 (oG fun n7=>W.draw (by kernel_rfl) (hc.ok w0) (plan:=[0,1,2,5,6,7,10,11,12,3,4,8,9,13,14,15,16]) (by kernel_rfl) (by kernel_rfl) (by kernel_rfl) ?_))))))));obtain⟨t7,e8,hF⟩:=z4 hF;refine WD.b 0 (some 7) t7 h_5 (z15 (P:=Try.prog) (h:=h_5) (s:=39) (f:=0) (by kernel_rfl) e8) ?_
 replace hF:=z4 hF;obtain⟨v8,e9,hF⟩:=hF
 replace hF:=z4 hF;obtain⟨t8,c10,hF⟩:=hF
 have c10:=z1a c10;subst c10;refine WD.b 1 (some 8) (.int .i64 t8) h_5 (z14 (P:=Try.prog) (h:=h_5) (t:=3) (by kernel_rfl) e9) ?_;obtain⟨t9,e11,hF⟩:=z6 hF;refine WD.val (d:=(some 9)) (v:=.int .u64 t9) (h':=h_5) (by kernel_rfl) (by kernel_rfl) (z38 (AV.int .u64) e11 (by kernel_rfl)) (k:=0) (by kernel_rfl) (fun e=>absurd e (by decide)) (by decide) ?_;obtain⟨t12,e12,hF⟩:=z4 hF;refine WD.b 0 (some 12) t12 h_5 (z15 (P:=Try.prog) (h:=h_5) (s:=39) (f:=1) (by kernel_rfl) e12) ?_
 replace hF:=z4 hF;obtain⟨v13,e13,hF⟩:=hF
 replace hF:=z4 hF;obtain⟨t13,c14,hF⟩:=hF
 have c14:=z1a c14;subst c14;refine WD.b 1 (some 13) (.int .i64 t13) h_5 (z14 (P:=Try.prog) (h:=h_5) (t:=3) (by kernel_rfl) e13) ?_;obtain⟨t14,e15,hF⟩:=z6 hF;refine WD.val (d:=(some 14)) (v:=.int .u64 t14) (h':=h_5) (by kernel_rfl) (by kernel_rfl) (z38 (AV.int .u64) e15 (by kernel_rfl)) (k:=0) (by kernel_rfl) (fun e=>absurd e (by decide)) (by decide) (WD.a 0 (some 17) (z5 t1) h_5 (WD.a 0 (some 18) (.int .i64 (z3b t1)) h_5 ?_));obtain⟨t19,e16,hF⟩:=z6 hF;refine WD.val (d:=(some 19)) (v:=.int .u64 t19) (h':=h_5) (by kernel_rfl) (by kernel_rfl) (z38 (AV.int .u64) e16 (by kernel_rfl)) (k:=0) (by kernel_rfl) (fun e=>absurd e (by decide)) (by decide) ?_
 replace hF:=z18 hF;obtain⟨r10,h_17,e18,hF⟩:=hF
 replace hF:=z4 hF;obtain⟨t10,c19,hF⟩:=hF
 have c19:=z19 c19;subst c19;obtain⟨k20,hF⟩:=z74 hF;refine WD.call (d:=(some 10)) (by kernel_rfl) (by kernel_rfl) (by kernel_rfl) e18 (k:=2) (by kernel_rfl) (fun _=>(Eq.trans (by kernel_rfl) k20)) (by decide) ?_;obtain⟨t11,e21,hF⟩:=z4 hF;refine WD.b 0 (some 11) (z5 t11) h_17 (z110 (P:=Try.prog) (h:=h_17) (t:=9) (lit:=true) e21) ?_
 replace hF:=z18 hF;obtain⟨r15,h_22,e23,hF⟩:=hF
 replace hF:=z4 hF;obtain⟨t15,c24,hF⟩:=hF
 have c24:=z19 c24;subst c24;refine WD.call (d:=(some 15)) (by kernel_rfl) (by kernel_rfl) (by kernel_rfl) e23 (k:=2) (by kernel_rfl) (fun _=>(by kernel_rfl)) (by decide) ?_;obtain⟨t16,e25,hF⟩:=z4 hF;refine WD.b 0 (some 16) (z5 t16) h_22 (z110 (P:=Try.prog) (h:=h_22) (t:=9) (lit:=false) e25) ?_
 replace hF:=z18 hF;obtain⟨r20,h_26,e27,hF⟩:=hF
 replace hF:=z4 hF;obtain⟨t20,c28,hF⟩:=hF
 have c28:=z19 c28;subst c28;refine WD.call (d:=(some 20)) (by kernel_rfl) (by kernel_rfl) (by kernel_rfl) e27 (k:=2) (by kernel_rfl) (fun _=>(by kernel_rfl)) (by decide) ?_;obtain⟨t21,e29,hF⟩:=z4 hF;refine WD.b 0 (some 21) (z5 t21) h_26 (z110 (P:=Try.prog) (h:=h_26) (t:=9) (lit:=false) e29) ?_
 replace hF:=z18 hF;obtain⟨r22,h_30,e31,hF⟩:=hF
 replace hF:=z4 hF;obtain⟨t22,c32,hF⟩:=hF
 have c32:=z19 c32;subst c32;refine WD.call (d:=(some 22)) (by kernel_rfl) (by kernel_rfl) (by kernel_rfl) e31 (k:=2) (by kernel_rfl) (fun _=>(by kernel_rfl)) (by decide) ?_;obtain⟨r23,h_33,e34,hF⟩:=z18 hF;refine WD.call (d:=(some 23)) (by kernel_rfl) (by kernel_rfl) (by kernel_rfl) e34 (k:=2) (by kernel_rfl) (fun _=>(by kernel_rfl)) (by decide) (WD.nil (gW [(1,z5 t1),(5,(z13 h_2))] (n7 (W.s (fun K35 n35 e35 q35 p35=>?_)))));obtain⟨k37,e37,hF⟩:=z6 hF
 have J37:∀(h_38:AHeap),k37 h_38=some (rR,hR)→Go w0 m0 (Func.ntmps Try.f43) (K35 .normal) [(5,(z13 h_2))] [] h_38:=by
  intro h_38 hF;rw[e37] at hF;exact n35 (oG fun n39=>W.r (oCs hc 35 hF fun t35 h_40 hF=>oA 4 (z5 t35) (oV [(4,z5 t35)] (n39 (oY (lZ hF [.tmp 4] [z5 t35] (rT zd)))))))
 refine W.blockK (by kernel_rfl) (fun K36 n36 s36 o36 q36 p36=>W.loopK (by kernel_rfl) (fun I43 K43 b43 n43 e43 q43 p43=>?_))
 have L43:∀(m:Nat) (t1_44:Bytes) (h_45:AHeap),zb9 call h_2 k37 m t1_44 h_45=some (rR,hR)→Go w0 m0 (Func.ntmps Try.f43) I43 [(1,z5 t1_44),(5,(z13 h_2))] [] h_45:=by
  intro m
  induction m with
  |zero=>intro t1_44 h_45 hF;cases hF
  |succ m ih43=>
   intro t1_44 h_45 hF;rw[z179] at hF;unfold ze3 at hF;refine b43 (W.s (fun K46 n46 e46 q46 p46=>oG fun n47=>W.r (oA 24 (z5 t1_44) (oB 25 hF fun t25 hF=>oV [(1,z5 t1_44),(5,(z13 h_2)),(25,.bool t25)] (n47 ?_)))))
   cases t25 with
   |true=>
    refine oT hF fun hF=>oZ (n46 (W.blockK (by kernel_rfl) (fun K49 n49 s49 o49 q49 p49=>oG fun n50=>W.r (oA 26 (z5 t1_44) (oCs hc 27 hF fun t27 h_51 hF=>oA 6 (z5 t27) (oV [(1,z5 t1_44),(5,(z13 h_2)),(6,z5 t27)] (n50 (oG fun n54=>W.r (oA 28 (z5 t27) (oCs hc 29 hF fun t29 h_55 hF=>oC hc (some 30) hF fun r30 h_58 hF=>oV [(1,z5 t1_44),(5,(z13 h_2)),(6,z5 t27)] (n54 (W.r (oA 31 (z5 t1_44) (oA 32 (z5 t27) (oA 33 (.int .i64 (z3b t27)) ?_)))))))))))))));obtain⟨t34,e60,hF⟩:=z4 hF;exact WL.b (some 34) (z5 t34) h_58 (z48 (P:=Try.prog) (h:=h_58) (t:=9) (A:=(some (.int .i64 (z3b t27)))) (B:=none) (by kernel_rfl) (.inl ⟨_,rfl⟩) (.inr ⟨rfl,rfl⟩) e60) (oA 1 (z5 t34) (oV [(1,z5 t34),(5,(z13 h_2))] (n49 (n43 (gW _ (ih43 _ _ hF))))))
   |false=>
    exact oU hF fun hF=>W.exit (by kernel_rfl) (e46 (e43 (s36 (by kernel_rfl) (gW _ (J37 _ hF)))))
 exact gW _ (L43 _ _ _ hF)
noncomputable def z147(call:z10)(_:Nat)(t0:AV)(h:AHeap):R:=outK (z75 Try.prog h .eql 36 true (some t0) (some AV.nilp)) fun v4 h_4=>obind (z33 v4) fun t4=>ifB t4 (some (.ret (.int .i64 1),h_4)) (callN (call 59 [t0] h_4) fun r6 h_10=>obind (z33 r6) fun t6=>lett (!t6) fun (t7:Bool)=>ifB t7 (some (.ret (.int .i64 40),h_10)) (some (.ret (.int .i64 0),h_10)))
set_option maxHeartbeats 4000000 in
set_option maxRecDepth 20000 in
theorem z33c{call:z10}(hc:SaysAll Try.prog call){n:Nat}{t0:AV}{h:AHeap}{rR:ARes}{hR:AHeap}(hF:z147 call n t0 h=some (rR,hR)):Says Try.prog 38 [t0] h rR hR:=by
 unfold z147 at hF;refine sO Try.func38 fun w0 m0=>wW [(0,t0)] (oG fun n1=>W.r (oA 2 (.int .i64 0) (oV [(0,t0)] (n1 (oH fun n2 q2=>oG fun n3=>W.r (oA 3 t0 ?_))))))
 replace hF:=z1c hF;obtain⟨v4,h_4,e5,hF⟩:=hF
 replace hF:=z4 hF;obtain⟨t4,c6,hF⟩:=hF
 have c6:=z24 c6;subst c6;refine WL.b (some 4) (.bool t4) h_4 e5 (oV [(0,t0),(4,.bool t4)] (n3 ?_))
 cases t4 with
 |true=>
  exact oT hF fun hF=>oG fun n7=>W.r (oA 2 (.int .i64 1) (oV [(2,.int .i64 1)] (n7 (oY (q2 (lZ hF [.tmp 2] [.int .i64 1] (rT zd)))))))
 |false=>
  refine oU hF fun hF=>oZ (n2 (oH fun n8 q8=>oG fun n9=>W.r (oA 5 t0 (oCb hc 6 hF fun t6 h_10 hF=>oB 7 hF fun t7 hF=>oV [(7,.bool t7)] (n9 ?_)))))
  cases t7 with
  |true=>
   exact oT hF fun hF=>oG fun n14=>W.r (oA 2 (.int .i64 40) (oV [(2,.int .i64 40)] (n14 (oY (q8 (lZ hF [.tmp 2] [.int .i64 40] (rT zd)))))))
  |false=>
   exact oU hF fun hF=>oZ (n8 (oG fun n15=>W.r (oA 2 (.int .i64 0) (oV [(2,.int .i64 0)] (n15 (oY (lZ hF [.tmp 2] [.int .i64 0] (rT zd))))))))
noncomputable def zc6(_:z10)(_:Nat)(h:AHeap):R:=outK (zd9 h 98 (some (.agg ([.int .i64 0,.int .i64 0,.int .i64 0,.nsl]:List AV)))) fun v2 h_3=>some (.ret (v2),h_3)
set_option maxHeartbeats 4000000 in
set_option maxRecDepth 20000 in
theorem z280{call:z10}(_:SaysAll Try.prog call){n:Nat}{h:AHeap}{rR:ARes}{hR:AHeap}(hF:zc6 call n h=some (rR,hR)):Says Try.prog 11 [] h rR hR:=by
 unfold zc6 at hF;exact sO Try.func11 fun w0 m0=>wW [] (oG fun n1=>W.r (oA 0 AV.nilp (oV [] (n1 (oG fun n2=>W.r (oA 1 (.agg ([.int .i64 0,.int .i64 0,.int .i64 0,.nsl]:List AV)) (oK 2 hF fun v2 h_3 hF=>oA 0 v2 (oV [(0,v2)] (n2 (oY (lZ hF [.tmp 0] [v2] (rT zd))))))))))))
noncomputable def za9(_:z10)(_:Nat)(t0:AV)(t1:List AV)(h:AHeap):R:=
 outK (zd9 h 35 (some (.agg t1))) fun v3 h_2=>
 outK (z75 Try.prog h_2 .eql 27 true (some t0) (some AV.nilp)) fun v9 h_6=>
 obind (z33 v9) fun t9=>
 lett (fun (t14:Bool) (h_9:AHeap)=>
  lett (fun (t19:Bool) (h_12:AHeap)=>
   lett (fun (t24:Bool) (h_15:AHeap)=>
    lett (fun (t29:Bool) (h_18:AHeap)=>
     ifB t29
     (
      some (.ret (.tup [.int .i64 0,z5 ([]:Bytes),.bool false]),h_18))
     (
      obind (z27 4 v3) fun t30=>
      obind (zc h_18 t30) fun v31=>
      obind (z17 .i64 v31) fun t31=>
      obind (z27 5 v3) fun t32=>
      obind (zc h_18 t32) fun v33=>
      obind (z17 .i64 v33) fun t33=>
      lett (newH h_18 39 [.int .i64 0,.int .i64 0]) fun h_29=>
      obind (z22 h_29 2 ([.int .i64 t31,.int .i64 t33]:List AV) (z13 h_18)) fun h_31=>
      lett (fun (t49:Bool) (h_36:AHeap)=>
       lett (fun (h_38:AHeap)=>
        lett (fun (t79:Bool) (h_42:AHeap)=>
         lett (fun (h_44:AHeap)=>
          obind (z53 t0) fun t91=>
          obind (z27 3 t91) fun t92=>
          obind (zc h_44 t92) fun v93=>
          obind (z12d v93) fun t94=>
          obind (z53 t0) fun t96=>
          obind (z27 2 t96) fun t97=>
          obind (zc h_44 t97) fun v98=>
          obind (z17 .i64 v98) fun t98=>
          lett (decide (t94<t98)) fun (t99:Bool)=>
          ifB t99
          (
           obind (z53 t0) fun t101=>
           obind (z27 3 t101) fun t102=>
           obind (zc h_44 t102) fun v103=>
           obind (z12d v103) fun t104=>
           some (.ret (.tup [.int .i64 t104,z5 ([]:Bytes),.bool false]),h_44))
          (
           obind (z53 t0) fun t106=>
           obind (z27 2 t106) fun t107=>
           obind (zc h_44 t107) fun v108=>
           obind (z17 .i64 v108) fun t108=>
           obind (z53 t0) fun t110=>
           obind (z27 3 t110) fun t111=>
           obind (zc h_44 t111) fun v112=>
           outK (z7b Try.prog h_44 46 9 (some v112)) fun v113 h_69=>
           obind (z20 v113) fun t113=>
           chk (true&&(z86 Try.prog h_69 3 t107 (.int .i64 t108)&&true))<|
           some (.ret (.tup [.int .i64 t108,z5 t113,.bool true]),h_69))) fun k43=>
         ifB t79
         (
          obind (z53 t0) fun t82=>
          obind (z27 3 t82) fun t83=>
          obind (zc h_42 t83) fun v84=>
          obind (z27 12 v3) fun t85=>
          obind (zc h_42 t85) fun v86=>
          obind (z20 v86) fun t86=>
          outK (z34 Try.prog h_42 46 9 v84 (z5 t86)) fun v87 h_79=>
          obind (z53 t0) fun t88=>
          obind (z27 3 t88) fun t89=>
          obind (z22 h_79 1 (AV.cells v87) t89) fun h_83=>
          k43 h_83)
         (
          k43 h_42)) fun k41=>
        obind (z27 10 v3) fun t56=>
        obind (zc h_38 t56) fun v57=>
        obind (z17 .i64 v57) fun t57=>
        obind (z53 t0) fun t59=>
        obind (z27 3 t59) fun t60=>
        obind (zc h_38 t60) fun v61=>
        obind (z12d v61) fun t62=>
        lett ((t57:Int) == t62) fun (t63:Bool)=>
        ifB t63
        (
         obind (z27 12 v3) fun t65=>
         obind (zc h_38 t65) fun v66=>
         obind (z20 v66) fun t66=>
         obind (z53 t0) fun t69=>
         obind (z27 2 t69) fun t70=>
         obind (zc h_38 t70) fun v71=>
         obind (z17 .i64 v71) fun t71=>
         obind (z53 t0) fun t73=>
         obind (z27 3 t73) fun t74=>
         obind (zc h_38 t74) fun v75=>
         obind (z12d v75) fun t76=>
         lett (IntKind.i64.wrap (t71 - t76)) fun (t77:Int)=>
         lett (decide ((z3b t66)≤t77)) fun (t78:Bool)=>
         k41 t78 h_38)
        (
         k41 false h_38)) fun k37=>
       ifB t49
       (
        obind (z2c h_36 2 (z13 h_18)) fun t51=>
        obind (z27 11 v3) fun t52=>
        obind (zc h_36 t52) fun v53=>
        obind (z17 .i64 v53) fun t53=>
        obind (z45d Try.prog 98 [(0,.agg t51),(1,.int .i64 t53)]) fun t54=>
        obind (z53 t0) fun t55=>
        obind (z22 h_36 4 t54 t55) fun h_112=>
        k37 h_112)
       (
        k37 h_36)) fun k35=>
      obind (z2c h_31 2 (z13 h_18)) fun t35=>
      obind (z53 t0) fun t37=>
      obind (z27 0 t37) fun t38=>
      obind (z2c h_31 2 t38) fun t39=>
      obind (z9f Try.prog 39 (.agg t35) (.agg t39)) fun t40=>
      lett (!t40) fun (t40_119:Bool)=>
      ifB t40_119
      (
       k35 true h_31)
      (
       obind (z27 11 v3) fun t42=>
       obind (zc h_31 t42) fun v43=>
       obind (z17 .i64 v43) fun t43=>
       obind (z53 t0) fun t45=>
       obind (z27 2 t45) fun t46=>
       obind (zc h_31 t46) fun v47=>
       obind (z17 .i64 v47) fun t47=>
       lett ((t43:Int) != t47) fun (t48:Bool)=>
       k35 t48 h_31))) fun j29=>
    ifB t24
    (
     j29 true h_15)
    (
     obind (z27 4 v3) fun t26=>
     obind (zc h_15 t26) fun v27=>
     obind (z17 .i64 v27) fun t27=>
     lett (decide (t27<1)) fun (t28:Bool)=>
     j29 t28 h_15)) fun j24=>
   ifB t19
   (
    j24 true h_12)
   (
    obind (z27 10 v3) fun t21=>
    obind (zc h_12 t21) fun v22=>
    obind (z17 .i64 v22) fun t22=>
    lett (decide (t22<0)) fun (t23:Bool)=>
    j24 t23 h_12)) fun j19=>
  ifB t14
  (
   j19 true h_9)
  (
   obind (z27 11 v3) fun t16=>
   obind (zc h_9 t16) fun v17=>
   obind (z17 .i64 v17) fun t17=>
   lett (decide (t17>262144)) fun (t18:Bool)=>
   j19 t18 h_9)) fun j14=>
 ifB t9
 (
  j14 true h_6)
 (
  obind (z27 11 v3) fun t11=>
  obind (zc h_6 t11) fun v12=>
  obind (z17 .i64 v12) fun t12=>
  lett (decide (t12<0)) fun (t13:Bool)=>
  j14 t13 h_6)
set_option maxHeartbeats 4000000 in
set_option maxRecDepth 20000 in
theorem z245{call:z10}(hc:SaysAll Try.prog call){n:Nat}{t0:AV}{t1:List AV}{h:AHeap}{rR:ARes}{hR:AHeap}(hF:za9 call n t0 t1 h=some (rR,hR)):Says Try.prog 12 [t0,.agg t1] h rR hR:=by
 unfold za9 at hF;refine sO Try.func12 fun w0 m0=>wW [(0,t0),(1,.agg t1)] (oG fun n1=>W.r (oK 3 hF fun v3 h_2 hF=>oA 4 (.int .i64 0) (oA 5 (z5 ([]:Bytes)) (oA 6 (.bool false) (oV [(0,t0),(3,v3)] (n1 (oH fun n4 q4=>W.s (fun K5 n5 e5 q5 p5=>W.r (oA 8 t0 ?_)))))))))
 replace hF:=z1c hF;obtain⟨v9,h_6,e7,hF⟩:=hF
 replace hF:=z4 hF;obtain⟨t9,c8,hF⟩:=hF
 have c8:=z24 c8;subst c8;refine WL.b (some 9) (.bool t9) h_6 e7 (oA 10 (.bool t9) ?_);obtain⟨j14,e10,hF⟩:=z6 hF
 have J11:∀(t14:Bool) (h_9:AHeap),j14 t14 h_9=some (rR,hR)→WL Try.prog w0 m0 (Func.ntmps Try.f12) (Code.ops (y6 (y6 (y5 (z2a Try.f12))))) 7 K5 [(0,t0),(3,v3),(14,.bool t14)] [] h_9:=by
  intro t14 h_9 hF;rw[e10] at hF;refine oA 15 (.bool t14) ?_;obtain⟨j19,e13,hF⟩:=z6 hF
  have J14:∀(t19:Bool) (h_12:AHeap),j19 t19 h_12=some (rR,hR)→WL Try.prog w0 m0 (Func.ntmps Try.f12) (Code.ops (y6 (y6 (y5 (z2a Try.f12))))) 12 K5 [(0,t0),(3,v3),(19,.bool t19)] [] h_12:=by
   intro t19 h_12 hF;rw[e13] at hF;refine oA 20 (.bool t19) ?_;obtain⟨j24,e16,hF⟩:=z6 hF
   have J17:∀(t24:Bool) (h_15:AHeap),j24 t24 h_15=some (rR,hR)→WL Try.prog w0 m0 (Func.ntmps Try.f12) (Code.ops (y6 (y6 (y5 (z2a Try.f12))))) 17 K5 [(0,t0),(3,v3),(24,.bool t24)] [] h_15:=by
    intro t24 h_15 hF;rw[e16] at hF;refine oA 25 (.bool t24) ?_;obtain⟨j29,e19,hF⟩:=z6 hF
    have J20:∀(t29:Bool) (h_18:AHeap),j29 t29 h_18=some (rR,hR)→WL Try.prog w0 m0 (Func.ntmps Try.f12) (Code.ops (y6 (y6 (y5 (z2a Try.f12))))) 22 K5 [(0,t0),(3,v3),(29,.bool t29)] [] h_18:=by
     intro t29 h_18 hF;rw[e19] at hF;refine oV [(0,t0),(3,v3),(29,.bool t29)] (n5 ?_)
     cases t29 with
     |true=>
      exact oT hF fun hF=>oG fun n21=>W.r (oA 4 (.int .i64 0) (oA 5 (z5 ([]:Bytes)) (oA 6 (.bool false) (oV [(4,.int .i64 0),(5,z5 ([]:Bytes)),(6,.bool false)] (n21 (oY (q4 (lZ hF [.tmp 4,.tmp 5,.tmp 6] [.int .i64 0,z5 ([]:Bytes),.bool false] (rT (rT (rT zd)))))))))))
     |false=>
      refine oU hF fun hF=>oZ (n4 (oG fun n22=>W.r (oF 30 35 4 hF fun t30 hF=>oLi 31 3 hF fun t31 hF=>oF 32 35 5 hF fun t32 hF=>oLi 33 3 hF fun t33 hF=>oA 34 (.agg ([.int .i64 t31,.int .i64 t33]:List AV)) (oN 7 hF fun h_29 hF=>oW 39 (.agg ([.int .i64 t31,.int .i64 t33]:List AV)) hF fun h_31 hF=>oV [(0,t0),(3,v3),(7,(z13 h_18))] (n22 (W.s (fun K33 n33 e33 q33 p33=>W.s (fun K34 n34 e34 q34 p34=>?_))))))));obtain⟨k35,e35,hF⟩:=z6 hF
      have J35:∀(t49:Bool) (h_36:AHeap),k35 t49 h_36=some (rR,hR)→Go w0 m0 (Func.ntmps Try.f12) (K34 .normal) [(0,t0),(3,v3),(7,(z13 h_18)),(49,.bool t49)] [] h_36:=by
       intro t49 h_36 hF;rw[e35] at hF;refine n34 ?_;obtain⟨k37,e37,hF⟩:=z6 hF
       have J37:∀(h_38:AHeap),k37 h_38=some (rR,hR)→Go w0 m0 (Func.ntmps Try.f12) (K33 .normal) [(0,t0),(3,v3)] [] h_38:=by
        intro h_38 hF;rw[e37] at hF;refine n33 (W.s (fun K39 n39 e39 q39 p39=>W.s (fun K40 n40 e40 q40 p40=>?_)));obtain⟨k41,e41,hF⟩:=z6 hF
        have J41:∀(t79:Bool) (h_42:AHeap),k41 t79 h_42=some (rR,hR)→Go w0 m0 (Func.ntmps Try.f12) (K40 .normal) [(0,t0),(3,v3),(79,.bool t79)] [] h_42:=by
         intro t79 h_42 hF;rw[e41] at hF;refine n40 ?_;obtain⟨k43,e43,hF⟩:=z6 hF
         have J43:∀(h_44:AHeap),k43 h_44=some (rR,hR)→Go w0 m0 (Func.ntmps Try.f12) (K39 .normal) [(0,t0)] [] h_44:=by
          intro h_44 hF;rw[e43] at hF;refine n39 (oH fun n45 q45=>oG fun n46=>W.draw (by kernel_rfl) (hc.ok w0) (plan:=[0,1,2,3,4,5,6,7,8,9]) (by kernel_rfl) (by kernel_rfl) (by kernel_rfl) (WD.a 0 (some 90) t0 h_44 ?_));obtain⟨t91,e47,hF⟩:=z4 hF;refine WD.b 0 (some 91) t91 h_44 (z2b (h:=h_44) e47) ?_;obtain⟨t92,e48,hF⟩:=z4 hF;refine WD.b 0 (some 92) t92 h_44 (z15 (P:=Try.prog) (h:=h_44) (s:=98) (f:=2) (by kernel_rfl) e48) ?_;obtain⟨v93,e49,hF⟩:=z4 hF;refine WD.b 1 (some 93) v93 h_44 (z14 (P:=Try.prog) (h:=h_44) (t:=46) (by kernel_rfl) e49) ?_;obtain⟨t94,e50,hF⟩:=z4 hF;refine WD.b 0 (some 94) (.int .i64 t94) h_44 (z1b7 (P:=Try.prog) (h:=h_44) (t:=46) (e':=5) (by kernel_rfl) e50) (WD.a 0 (some 95) t0 h_44 ?_);obtain⟨t96,e51,hF⟩:=z4 hF;refine WD.b 0 (some 96) t96 h_44 (z2b (h:=h_44) e51) ?_;obtain⟨t97,e52,hF⟩:=z4 hF;refine WD.b 0 (some 97) t97 h_44 (z15 (P:=Try.prog) (h:=h_44) (s:=98) (f:=1) (by kernel_rfl) e52) ?_
          replace hF:=z4 hF;obtain⟨v98,e53,hF⟩:=hF
          replace hF:=z4 hF;obtain⟨t98,c54,hF⟩:=hF
          have c54:=z1a c54;subst c54;refine WD.b 1 (some 98) (.int .i64 t98) h_44 (z14 (P:=Try.prog) (h:=h_44) (t:=3) (by kernel_rfl) e53) ?_;obtain⟨t99,e55,hF⟩:=z6 hF;refine WD.val (d:=(some 99)) (v:=.bool t99) (h':=h_44) (by kernel_rfl) (by kernel_rfl) (z38 AV.bool e55 (by kernel_rfl)) (k:=0) (by kernel_rfl) (fun e=>absurd e (by decide)) (by decide) (WD.nil (gW [(0,t0),(99,.bool t99)] (n46 ?_)))
          cases t99 with
          |true=>
           exact oT hF fun hF=>oG fun n56=>W.r (oA 100 t0 (oC0 101 hF fun t101 hF=>oF 102 98 2 hF fun t102 hF=>oL 103 46 hF fun v103 hF=>oM 104 46 5 hF fun t104 hF=>oA 4 (.int .i64 t104) (oA 5 (z5 ([]:Bytes)) (oA 6 (.bool false) (oV [(4,.int .i64 t104),(5,z5 ([]:Bytes)),(6,.bool false)] (n56 (oY (q45 (lZ hF [.tmp 4,.tmp 5,.tmp 6] [.int .i64 t104,z5 ([]:Bytes),.bool false] (rT (rT (rT zd))))))))))))
          |false=>
           refine oU hF fun hF=>oZ (n45 (oG fun n61=>W.draw (by kernel_rfl) (hc.ok w0) (plan:=[0,1,2,3,4,5,6,7,9,8,10,11]) (by kernel_rfl) (by kernel_rfl) (by kernel_rfl) (WD.a 0 (some 105) t0 h_44 ?_)));obtain⟨t106,e62,hF⟩:=z4 hF;refine WD.b 0 (some 106) t106 h_44 (z2b (h:=h_44) e62) ?_;obtain⟨t107,e63,hF⟩:=z4 hF;refine WD.b 0 (some 107) t107 h_44 (z15 (P:=Try.prog) (h:=h_44) (s:=98) (f:=1) (by kernel_rfl) e63) ?_
           replace hF:=z4 hF;obtain⟨v108,e64,hF⟩:=hF
           replace hF:=z4 hF;obtain⟨t108,c65,hF⟩:=hF
           have c65:=z1a c65;subst c65;refine WD.b 1 (some 108) (.int .i64 t108) h_44 (z14 (P:=Try.prog) (h:=h_44) (t:=3) (by kernel_rfl) e64) (WD.a 0 (some 109) t0 h_44 ?_);obtain⟨t110,e66,hF⟩:=z4 hF;refine WD.b 0 (some 110) t110 h_44 (z2b (h:=h_44) e66) ?_;obtain⟨t111,e67,hF⟩:=z4 hF;refine WD.b 0 (some 111) t111 h_44 (z15 (P:=Try.prog) (h:=h_44) (s:=98) (f:=2) (by kernel_rfl) e67) ?_;obtain⟨v112,e68,hF⟩:=z4 hF;refine WD.b 1 (some 112) v112 h_44 (z14 (P:=Try.prog) (h:=h_44) (t:=46) (by kernel_rfl) e68) (WD.a 0 (some 4) (.int .i64 t108) h_44 ?_)
           replace hF:=z1c hF;obtain⟨v113,h_69,e70,hF⟩:=hF
           replace hF:=z4 hF;obtain⟨t113,c71,hF⟩:=hF
           have c71:=z19 c71;subst c71;obtain⟨k72,hF⟩:=z74 hF;exact WD.val (d:=(some 113)) (v:=z5 t113) (h':=h_69) (by kernel_rfl) (by kernel_rfl) (Eq.trans (by kernel_rfl) e70) (k:=2) (by kernel_rfl) (fun _=>(Eq.trans (by kernel_rfl) k72)) (by decide) (WD.a 0 (some 5) (z5 t113) h_69 (WD.a 0 (some 6) (.bool true) h_69 (WD.nil (gW [(4,.int .i64 t108),(5,z5 t113),(6,.bool true)] (n61 (oY (lZ hF [.tmp 4,.tmp 5,.tmp 6] [.int .i64 t108,z5 t113,.bool true] (rT (rT (rT zd))))))))))
         cases t79 with
         |true=>
          refine oT hF fun hF=>W.draw (by kernel_rfl) (hc.ok w0) (plan:=[0,1,2,3,4,5,6,7,8,9,10]) (by kernel_rfl) (by kernel_rfl) (by kernel_rfl) (WD.a 0 (some 80) t0 h_42 (WD.a 0 (some 81) t0 h_42 ?_));obtain⟨t82,e73,hF⟩:=z4 hF;refine WD.b 0 (some 82) t82 h_42 (z2b (h:=h_42) e73) ?_;obtain⟨t83,e74,hF⟩:=z4 hF;refine WD.b 0 (some 83) t83 h_42 (z15 (P:=Try.prog) (h:=h_42) (s:=98) (f:=2) (by kernel_rfl) e74) ?_;obtain⟨v84,e75,hF⟩:=z4 hF;refine WD.b 1 (some 84) v84 h_42 (z14 (P:=Try.prog) (h:=h_42) (t:=46) (by kernel_rfl) e75) ?_;obtain⟨t85,e76,hF⟩:=z4 hF;refine WD.b 0 (some 85) t85 h_42 (z15 (P:=Try.prog) (h:=h_42) (s:=35) (f:=12) (by kernel_rfl) e76) ?_
          replace hF:=z4 hF;obtain⟨v86,e77,hF⟩:=hF
          replace hF:=z4 hF;obtain⟨t86,c78,hF⟩:=hF
          have c78:=z19 c78;subst c78;refine WD.b 1 (some 86) (z5 t86) h_42 (z14 (P:=Try.prog) (h:=h_42) (t:=9) (by kernel_rfl) e77) ?_;obtain⟨v87,h_79,e80,hF⟩:=z1c hF;refine WD.val (d:=(some 87)) (v:=v87) (h':=h_79) (by kernel_rfl) (by kernel_rfl) (Eq.trans (by kernel_rfl) e80) (k:=2) (by kernel_rfl) (fun _=>(by kernel_rfl)) (by decide) ?_;obtain⟨t88,e81,hF⟩:=z4 hF;refine WD.b 0 (some 88) t88 h_79 (z2b (h:=h_79) e81) ?_;obtain⟨t89,e82,hF⟩:=z4 hF;refine WD.b 0 (some 89) t89 h_79 (z15 (P:=Try.prog) (h:=h_79) (s:=98) (f:=2) (by kernel_rfl) e82) ?_;obtain⟨h_83,e84,hF⟩:=z4 hF;exact WD.eff (h':=h_83) (by kernel_rfl) (by kernel_rfl) (Eq.trans (by kernel_rfl) (z55 (P:=Try.prog) (h:=h_79) (t:=46) (v:=v87) (by kernel_rfl) (by kernel_rfl) e84)) (k:=2) (by kernel_rfl) (fun _=>(by kernel_rfl)) (by decide) (WD.nil (gW [(0,t0)] (gW _ (J43 _ hF))))
         |false=>
          exact oU hF fun hF=>oZ (gW _ (J43 _ hF))
        refine W.draw (by kernel_rfl) (hc.ok w0) (plan:=[0,1,2,3,4,5,6,7,8,9,10,11,12,13,14,15,16,17,18,19,20,21,22,23]) (by kernel_rfl) (by kernel_rfl) (by kernel_rfl) ?_;obtain⟨t56,e85,hF⟩:=z4 hF;refine WD.b 0 (some 56) t56 h_38 (z15 (P:=Try.prog) (h:=h_38) (s:=35) (f:=10) (by kernel_rfl) e85) ?_
        replace hF:=z4 hF;obtain⟨v57,e86,hF⟩:=hF
        replace hF:=z4 hF;obtain⟨t57,c87,hF⟩:=hF
        have c87:=z1a c87;subst c87;refine WD.b 1 (some 57) (.int .i64 t57) h_38 (z14 (P:=Try.prog) (h:=h_38) (t:=3) (by kernel_rfl) e86) (WD.a 0 (some 58) t0 h_38 ?_);obtain⟨t59,e88,hF⟩:=z4 hF;refine WD.b 0 (some 59) t59 h_38 (z2b (h:=h_38) e88) ?_;obtain⟨t60,e89,hF⟩:=z4 hF;refine WD.b 0 (some 60) t60 h_38 (z15 (P:=Try.prog) (h:=h_38) (s:=98) (f:=2) (by kernel_rfl) e89) ?_;obtain⟨v61,e90,hF⟩:=z4 hF;refine WD.b 1 (some 61) v61 h_38 (z14 (P:=Try.prog) (h:=h_38) (t:=46) (by kernel_rfl) e90) ?_;obtain⟨t62,e91,hF⟩:=z4 hF;refine WD.b 0 (some 62) (.int .i64 t62) h_38 (z1b7 (P:=Try.prog) (h:=h_38) (t:=46) (e':=5) (by kernel_rfl) e91) ?_;obtain⟨t63,e92,hF⟩:=z6 hF;refine WD.val (d:=(some 63)) (v:=.bool t63) (h':=h_38) (by kernel_rfl) (by kernel_rfl) (z38 AV.bool e92 (by kernel_rfl)) (k:=0) (by kernel_rfl) (fun e=>absurd e (by decide)) (by decide) (WD.a 0 (some 64) (.bool t63) h_38 ?_)
        cases t63 with
        |true=>
         replace hF:=z4f hF
         obtain⟨t65,e93,hF⟩:=z4 hF;refine WD.b 0 (some 65) t65 h_38 (z15 (P:=Try.prog) (h:=h_38) (s:=35) (f:=12) (by kernel_rfl) e93) ?_
         replace hF:=z4 hF;obtain⟨v66,e94,hF⟩:=hF
         replace hF:=z4 hF;obtain⟨t66,c95,hF⟩:=hF
         have c95:=z19 c95;subst c95;refine WD.b 1 (some 66) (z5 t66) h_38 (z14 (P:=Try.prog) (h:=h_38) (t:=9) (by kernel_rfl) e94) (WD.a 0 (some 67) (.int .i64 (z3b t66)) h_38 (WD.a 0 (some 68) t0 h_38 ?_));obtain⟨t69,e96,hF⟩:=z4 hF;refine WD.b 0 (some 69) t69 h_38 (z2b (h:=h_38) e96) ?_;obtain⟨t70,e97,hF⟩:=z4 hF;refine WD.b 0 (some 70) t70 h_38 (z15 (P:=Try.prog) (h:=h_38) (s:=98) (f:=1) (by kernel_rfl) e97) ?_
         replace hF:=z4 hF;obtain⟨v71,e98,hF⟩:=hF
         replace hF:=z4 hF;obtain⟨t71,c99,hF⟩:=hF
         have c99:=z1a c99;subst c99;refine WD.b 1 (some 71) (.int .i64 t71) h_38 (z14 (P:=Try.prog) (h:=h_38) (t:=3) (by kernel_rfl) e98) (WD.a 0 (some 72) t0 h_38 ?_);obtain⟨t73,e100,hF⟩:=z4 hF;refine WD.b 0 (some 73) t73 h_38 (z2b (h:=h_38) e100) ?_;obtain⟨t74,e101,hF⟩:=z4 hF;refine WD.b 0 (some 74) t74 h_38 (z15 (P:=Try.prog) (h:=h_38) (s:=98) (f:=2) (by kernel_rfl) e101) ?_;obtain⟨v75,e102,hF⟩:=z4 hF;refine WD.b 1 (some 75) v75 h_38 (z14 (P:=Try.prog) (h:=h_38) (t:=46) (by kernel_rfl) e102) ?_;obtain⟨t76,e103,hF⟩:=z4 hF;refine WD.b 0 (some 76) (.int .i64 t76) h_38 (z1b7 (P:=Try.prog) (h:=h_38) (t:=46) (e':=5) (by kernel_rfl) e103) ?_;obtain⟨t77,e104,hF⟩:=z6 hF;refine WD.val (d:=(some 77)) (v:=.int .i64 t77) (h':=h_38) (by kernel_rfl) (by kernel_rfl) (z38 (AV.int .i64) e104 (by kernel_rfl)) (k:=0) (by kernel_rfl) (fun e=>absurd e (by decide)) (by decide) ?_;obtain⟨t78,e105,hF⟩:=z6 hF;exact WD.val (d:=(some 78)) (v:=.bool t78) (h':=h_38) (by kernel_rfl) (by kernel_rfl) (z38 AV.bool e105 (by kernel_rfl)) (k:=0) (by kernel_rfl) (fun e=>absurd e (by decide)) (by decide) (WD.a 0 (some 79) (.bool t78) h_38 (WD.nil (gW _ (J41 _ _ hF))))
        |false=>
         replace hF:=z50 hF
         exact oD 0 (some 65) (oD 1 (some 66) (oD 0 (some 67) (oD 0 (some 68) (oD 0 (some 69) (oD 0 (some 70) (oD 1 (some 71) (oD 0 (some 72) (oD 0 (some 73) (oD 0 (some 74) (oD 1 (some 75) (oD 0 (some 76) (oD 0 (some 77) (oD 0 (some 78) (WD.a 0 (some 79) (.bool false) h_38 (WD.nil (gW _ (J41 _ _ hF)))))))))))))))))
       cases t49 with
       |true=>
        refine oT hF fun hF=>W.r (oA 50 t0 (oR 51 39 hF fun t51 hF=>oF 52 35 11 hF fun t52 hF=>oLi 53 3 hF fun t53 hF=>?_));obtain⟨t54,e110,hF⟩:=z4 hF;exact WL.val (d:=(some 54)) (v:=.agg t54) (h':=h_36) (by kernel_rfl) (by kernel_rfl) (z32c (by kernel_rfl) e110) (oC0 55 hF fun t55 hF=>oW 98 (.agg t54) hF fun h_112 hF=>oV [(0,t0),(3,v3)] (gW _ (J37 _ hF)))
       |false=>
        exact oU hF fun hF=>oZ (gW _ (J37 _ hF))
      refine W.draw (by kernel_rfl) (hc.ok w0) (plan:=[0,1,2,3,4,5,6,7,8,9,10,11,12,13,14]) (by kernel_rfl) (by kernel_rfl) (by kernel_rfl) ?_;obtain⟨t35,e114,hF⟩:=z4 hF;refine WD.b 1 (some 35) (.agg t35) h_31 (z64 (P:=Try.prog) (h:=h_31) (t:=39) (by kernel_rfl) (by kernel_rfl) e114) (WD.a 0 (some 36) t0 h_31 ?_);obtain⟨t37,e115,hF⟩:=z4 hF;refine WD.b 0 (some 37) t37 h_31 (z2b (h:=h_31) e115) ?_;obtain⟨t38,e116,hF⟩:=z4 hF;refine WD.b 0 (some 38) t38 h_31 (z15 (P:=Try.prog) (h:=h_31) (s:=98) (f:=0) (by kernel_rfl) e116) ?_;obtain⟨t39,e117,hF⟩:=z4 hF;refine WD.b 1 (some 39) (.agg t39) h_31 (z64 (P:=Try.prog) (h:=h_31) (t:=39) (by kernel_rfl) (by kernel_rfl) e117) ?_;obtain⟨t40,e118,hF⟩:=z4 hF;obtain⟨t40_119,e120,hF⟩:=z6 hF;refine WD.val (d:=(some 40)) (v:=.bool t40_119) (h':=h_31) (by kernel_rfl) (by kernel_rfl) (z38 AV.bool e120 (Eq.trans (by kernel_rfl) (z220 (P:=Try.prog) (h:=h_31) (t:=39) (lit:=false) (by kernel_rfl) e118))) (k:=0) (by kernel_rfl) (fun e=>absurd e (by decide)) (by decide) (WD.a 0 (some 41) (.bool t40_119) h_31 ?_)
      cases t40_119 with
      |true=>
       replace hF:=z4f hF
       exact oD 0 (some 42) (oD 1 (some 43) (oD 0 (some 44) (oD 0 (some 45) (oD 0 (some 46) (oD 1 (some 47) (oD 0 (some 48) (WD.a 0 (some 49) (.bool true) h_31 (WD.nil (gW _ (J35 _ _ hF))))))))))
      |false=>
       replace hF:=z50 hF
       obtain⟨t42,e121,hF⟩:=z4 hF;refine WD.b 0 (some 42) t42 h_31 (z15 (P:=Try.prog) (h:=h_31) (s:=35) (f:=11) (by kernel_rfl) e121) ?_
       replace hF:=z4 hF;obtain⟨v43,e122,hF⟩:=hF
       replace hF:=z4 hF;obtain⟨t43,c123,hF⟩:=hF
       have c123:=z1a c123;subst c123;refine WD.b 1 (some 43) (.int .i64 t43) h_31 (z14 (P:=Try.prog) (h:=h_31) (t:=3) (by kernel_rfl) e122) (WD.a 0 (some 44) t0 h_31 ?_);obtain⟨t45,e124,hF⟩:=z4 hF;refine WD.b 0 (some 45) t45 h_31 (z2b (h:=h_31) e124) ?_;obtain⟨t46,e125,hF⟩:=z4 hF;refine WD.b 0 (some 46) t46 h_31 (z15 (P:=Try.prog) (h:=h_31) (s:=98) (f:=1) (by kernel_rfl) e125) ?_
       replace hF:=z4 hF;obtain⟨v47,e126,hF⟩:=hF
       replace hF:=z4 hF;obtain⟨t47,c127,hF⟩:=hF
       have c127:=z1a c127;subst c127;refine WD.b 1 (some 47) (.int .i64 t47) h_31 (z14 (P:=Try.prog) (h:=h_31) (t:=3) (by kernel_rfl) e126) ?_;obtain⟨t48,e128,hF⟩:=z6 hF;exact WD.val (d:=(some 48)) (v:=.bool t48) (h':=h_31) (by kernel_rfl) (by kernel_rfl) (z38 AV.bool e128 (by kernel_rfl)) (k:=0) (by kernel_rfl) (fun e=>absurd e (by decide)) (by decide) (WD.a 0 (some 49) (.bool t48) h_31 (WD.nil (gW _ (J35 _ _ hF))))
    cases t24 with
    |true=>
     replace hF:=z4f hF
     exact WL.o (some 26) (WL.o (some 27) (WL.o (some 28) (oA 29 (.bool true) (lW _ (J20 _ _ hF)))))
    |false=>
     replace hF:=z50 hF
     exact oF 26 35 4 hF fun t26 hF=>oLi 27 3 hF fun t27 hF=>oB 28 hF fun t28 hF=>oA 29 (.bool t28) (lW _ (J20 _ _ hF))
   cases t19 with
   |true=>
    replace hF:=z4f hF
    exact WL.o (some 21) (WL.o (some 22) (WL.o (some 23) (oA 24 (.bool true) (lW _ (J17 _ _ hF)))))
   |false=>
    replace hF:=z50 hF
    exact oF 21 35 10 hF fun t21 hF=>oLi 22 3 hF fun t22 hF=>oB 23 hF fun t23 hF=>oA 24 (.bool t23) (lW _ (J17 _ _ hF))
  cases t14 with
  |true=>
   replace hF:=z4f hF
   exact WL.o (some 16) (WL.o (some 17) (WL.o (some 18) (oA 19 (.bool true) (lW _ (J14 _ _ hF)))))
  |false=>
   replace hF:=z50 hF
   exact oF 16 35 11 hF fun t16 hF=>oLi 17 3 hF fun t17 hF=>oB 18 hF fun t18 hF=>oA 19 (.bool t18) (lW _ (J14 _ _ hF))
 cases t9 with
 |true=>
  replace hF:=z4f hF
  exact WL.o (some 11) (WL.o (some 12) (WL.o (some 13) (oA 14 (.bool true) (lW _ (J11 _ _ hF)))))
 |false=>
  replace hF:=z50 hF
  exact oF 11 35 11 hF fun t11 hF=>oLi 12 3 hF fun t12 hF=>oB 13 hF fun t13 hF=>oA 14 (.bool t13) (lW _ (J11 _ _ hF))
end Go.Proofs.Ytpnccmlajhhpdaa
