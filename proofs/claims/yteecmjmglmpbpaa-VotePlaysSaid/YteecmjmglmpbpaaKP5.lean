/- What votePlays_proved stands on, part 5 of 10. -/
import Derived.Test.YteecmjmglmpbpaaKP4
import Derived.Test.YteecmjmglmpbpaaRows
import Derived.WalkKit
import Derived.ProofKit
import Derived.OpenShut
import Derived.SizedLaws
import Derived.SliceStrings
namespace Go.Proofs.Yteecmjmglmpbpaa
open Go.ChangeShapes Go.WideShapes Go.ChangeAt Go.RowKit
open Go.ChangeMaps (open_string shut_string)
theorem Try.own:ownKnob Try.prog.godebug=none:=by kernel_rfl
theorem y43:laidOutB Try.prog=true:=by kernel_rfl
section
variable {H:Type}{enc:TypeId×Value→H}
theorem stays{P:Program}(hP:laidOutB P=true){W W':World}(hb:Below W.heap.size W W')(ts:List TypeId):∀(vs:List Value) (ds:List (DataW H)) (ps:List MemPlace),
  DataW.TrodAll enc P W 0 (fun _=>true) true ts vs ds ps→(∀t∈ts,P.readableRec t=true∧t<P.types.size)→(∀x∈ps,x.block<W.heap.size)→
  DataW.TrodAll enc P W' 0 (fun b=>decide (b<W.heap.size)) true ts vs ds ps:=by
 induction ts with
 |nil=>
  intro vs ds ps h _ _;obtain⟨rfl,rfl,rfl⟩:=trodAll_nil h;exact trodAll_mk0
 |cons t ts ih=>
  intro vs ds ps h hr hlt;obtain⟨v,vs',d,ds',p,q,rfl,rfl,rfl,h1,h2⟩:=trodAll_cons h;obtain⟨hr1,hr2⟩:=hr t (List.mem_cons_self ..);exact trodAll_cons_mk (Below.trod hP hr1 hr2 h1 hb (fun x hx=>hlt x (List.mem_append_left _ hx))) (ih _ _ _ h2 (fun t ht=>hr t (List.mem_cons_of_mem _ ht)) (fun x hx=>hlt x (List.mem_append_right _ hx)))
theorem z3e0{P:Program}{ts:List TypeId}(h:(ts.all fun t=>P.readableRec t&&decide (t<P.types.size))=true):∀t∈ts,P.readableRec t=true∧t<P.types.size:=by
 intro t ht;have h1:=List.all_eq_true.1 h t ht;rw[Bool.and_eq_true] at h1;exact⟨h1.1,of_decide_eq_true h1.2⟩
set_option maxRecDepth 100000 in
theorem z4b5{f:FuncId}{fn:Func}{s:ChangeSpec}(hfn:Try.prog.funcs[f]? =some fn)(noInit:Try.prog.inits.idxOf? f=none)(hvars:s.vars=[])(hres:fn.resultTypes= #[4])(hread:(fn.params.toList.all fun t=>Try.prog.readableRec t&&decide (t<Try.prog.types.size))=true)(hspec:∀(args:List Value) (ds:List (DataW H)) (W:World) (p:List MemPlace),DataW.TrodAll enc Try.prog W 0 (fun _=>true) true fn.params.toList args ds p→(s.fn H (ds++[])).results=[.lit (.bool true)]∧(s.fn H (ds++[])).args=ds∧(s.fn H (ds++[])).vars=[])(hplain:s.plain.varTypes Try.prog=[])(os:Os)(started:os.Started)(witness : ∃ (w : World) (tape : Tape) (i : Input), w.os = os ∧ (w.forCall tape i).Shaped Try.prog ∧ i.vars = [] ∧ Input.okWide Try.prog (w.forCall tape i) .any w.heap.size f i ∧
   s.pre6 enc Try.prog fn [] false (w.forCall tape i).memory i.args∧({}:Assume).holds Try.prog (lone (Frame.enter Try.prog f i.args .normal) [] (w.forCall tape i)))(walk : ∀ (W : World) (args : Array Value) (ds : List (DataW H)) (p : List MemPlace), (∀ (j : Nat) t v, fn.params[j]? = some t → args[j]? = some v → ∃ base, Value.okWide Try.prog W .any base t v) →
   DataW.TrodAll enc Try.prog W 0 (fun _=>true) true fn.params.toList args.toList ds p→(∀x∈p,x.block<W.heap.size)→
   (DataW.weightsEach Try.prog fn.params.toList ds).all (·≤reachBytes)=true→
   Calls Try.prog f args W fun e W'=>e=.returned (.bool true)∧Below W.heap.size W W'):
  ReturnsInHanded {} Try.checked os f .any (s.pre6 enc Try.prog fn [] false) (s.post enc Try.prog fn false true false false):=by
 refine returnsInHanded_of_change_sized (C:=Try.checked) Try.own started noInit hfn witness ?_;intro W base args ds gs before hval hW _ hsz0 _;have hW':=hW;obtain⟨p,q,hA0,hV,rfl,_,_⟩:=hW;have hA:DataW.TrodAll enc Try.prog W 0 (fun _=>true) true fn.params.toList args.toList ds p:=hA0;rw[hvars] at hV hW';obtain⟨rfl,rfl⟩:=trodVars_none hV;simp only[List.append_nil] at hW';have hlt:∀x∈p,x.block<W.heap.size:=fun x hx=>by simpa using hW'.lt x hx
 have hsz:(DataW.weightsEach Try.prog fn.params.toList ds).all (·≤reachBytes)=true:=by
  have h:=hsz0;rw[show s.plain.varTypes Try.checked.prog=[] from hplain] at h;simp only[List.append_nil] at h;exact h
 obtain⟨er,ea,ev⟩:=hspec args.toList ds W p hA;refine(walk W args ds p (fun j t v h1 h2=>⟨base,hval j t v h1 h2⟩) hA hlt hsz).mono fun e W' ⟨he,hb⟩=>?_;subst he;refine⟨_,rfl,ds,[],p,[],p,[],?_,?_,?_,?_,hb.frame _,fun h=>by cases h⟩
 ·rw[hvars];exact hW'
 ·rw[er,hres];exact trodAll_mk1 (shut_bool Try.underlying4 _)
 ·rw[ea];exact stays y43 hb _ _ _ _ hA (z3e0 hread) hlt
 ·rw[ev,hvars];trivial
end
open Go.RowKit Abs
noncomputable def z190(_:z11)(_:Nat)(h:AHeap):R:=outK (zba h 82 (some (.agg ([.bool false,.nsl,.bool false,.nsl,.nsl,.bool false,.nsl,.bool false,.nsl,.nsl,.bool false,.nsl,.bool false,.nsl,.nsl,.bool false,.nsl,.bool false,.nsl,.nsl,.bool false,.nsl,.bool false,.nsl,.nsl,.bool false,.nsl,.bool false,.nsl,.nsl,.bool false,.nsl,.bool false,.nsl,.nsl,.bool false,.nsl,.bool false,.nsl,.nsl,.bool false,.nsl,.bool false,.nsl,.nsl,.bool false,.nsl,.bool false,.nsl,.nsl,.bool false,.nsl,.bool false,.nsl,.nsl,.bool false,.nsl,.bool false,.nsl,.nsl,.bool false,.nsl,.bool false,.nsl,.nsl,.bool false,.nsl,.bool false,.nsl,.nsl,.bool false,.nsl,.bool false,.nsl,.nsl,.bool false,.nsl,.bool false,.nsl,.nsl,.bool false,.nsl,.bool false,.nsl,.nsl,.bool false,.nsl,.bool false,.nsl,.nsl,.bool false,.nsl,.bool false,.nsl,.nsl,.bool false,.nsl,.bool false,.nsl,.nsl,.bool false,.nsl,.bool false,.nsl,.nsl,.bool false,.nsl,.bool false,.nsl,.nsl,.bool false,.nsl,.bool false,.nsl,.nsl,.bool false,.nsl,.bool false,.nsl,.nsl,.bool false,.nsl,.bool false,.nsl,.nsl,.bool false,.nsl,.bool false,.nsl,.nsl,.bool false,.nsl,.bool false,.nsl,.nsl,.bool false,.nsl,.bool false,.nsl,.nsl,.bool false,.nsl,.bool false,.nsl,.nsl,.bool false,.nsl,.bool false,.nsl,.nsl,.bool false,.nsl,.bool false,.nsl,.nsl,.bool false,.nsl,.bool false,.nsl,.nsl,.int .i64 (-1),.int .i64 0]:List AV)))) fun v2 h_3=>some (.ret (v2),h_3)
set_option maxHeartbeats 4000000 in
set_option maxRecDepth 20000 in
theorem z401{call:z11}(_:SaysAll Try.prog call){n:Nat}{h:AHeap}{rR:ARes}{hR:AHeap}(hF:z190 call n h=some (rR,hR)):Says Try.prog 9 [] h rR hR:=by
 unfold z190 at hF;refine sO Try.func9 fun w0 m0=>?_;refine wW [] ?_;refine oG fun n1=>W.r ?_;refine oA 0 AV.nilp ?_;refine oV [] (n1 ?_);refine oG fun n2=>W.r ?_;refine oA 1 (.agg ([.bool false,.nsl,.bool false,.nsl,.nsl,.bool false,.nsl,.bool false,.nsl,.nsl,.bool false,.nsl,.bool false,.nsl,.nsl,.bool false,.nsl,.bool false,.nsl,.nsl,.bool false,.nsl,.bool false,.nsl,.nsl,.bool false,.nsl,.bool false,.nsl,.nsl,.bool false,.nsl,.bool false,.nsl,.nsl,.bool false,.nsl,.bool false,.nsl,.nsl,.bool false,.nsl,.bool false,.nsl,.nsl,.bool false,.nsl,.bool false,.nsl,.nsl,.bool false,.nsl,.bool false,.nsl,.nsl,.bool false,.nsl,.bool false,.nsl,.nsl,.bool false,.nsl,.bool false,.nsl,.nsl,.bool false,.nsl,.bool false,.nsl,.nsl,.bool false,.nsl,.bool false,.nsl,.nsl,.bool false,.nsl,.bool false,.nsl,.nsl,.bool false,.nsl,.bool false,.nsl,.nsl,.bool false,.nsl,.bool false,.nsl,.nsl,.bool false,.nsl,.bool false,.nsl,.nsl,.bool false,.nsl,.bool false,.nsl,.nsl,.bool false,.nsl,.bool false,.nsl,.nsl,.bool false,.nsl,.bool false,.nsl,.nsl,.bool false,.nsl,.bool false,.nsl,.nsl,.bool false,.nsl,.bool false,.nsl,.nsl,.bool false,.nsl,.bool false,.nsl,.nsl,.bool false,.nsl,.bool false,.nsl,.nsl,.bool false,.nsl,.bool false,.nsl,.nsl,.bool false,.nsl,.bool false,.nsl,.nsl,.bool false,.nsl,.bool false,.nsl,.nsl,.bool false,.nsl,.bool false,.nsl,.nsl,.bool false,.nsl,.bool false,.nsl,.nsl,.bool false,.nsl,.bool false,.nsl,.nsl,.int .i64 (-1),.int .i64 0]:List AV)) ?_;refine oK 2 hF fun v2 h_3 hF=>?_;refine oA 0 v2 ?_;refine oV [(0,v2)] (n2 (oY ?_));exact lZ hF [.tmp 0] [v2] (rT zc)
noncomputable def z81(call:z11)(_:Nat)(t0:AV)(t1:Int)(t2:zf)(h:AHeap):R:=callN (call 45 [t0,.int .i64 t1] h) fun r10 h_4=>obind (z17 .i64 r10) fun t10=>lett ((t10:Int) != 0) fun (t12:Bool)=>ifB t12 (some (.ret (.int .i64 t10),h_4)) (obind (z34 t0) fun t18=>obind (z20 0 t18) fun t19=>obind (z17b 32 5 t19 t1) fun t20=>obind (z20 2 t20) fun t21=>obind (z20 1 t21) fun t22=>obind (z9 h_4 t22) fun v23=>obind (z197 v23) fun t24=>lett (IntKind.i64.wrap (1048576 - t24)) fun (t25:Int)=>lett (decide ((z7e t2)>t25)) fun (t26:Bool)=>ifB t26 (some (.ret (.int .i64 8),h_4)) (callN (call 46 [t0,.int .i64 t1,.agg ([.int .i64 0,ze t2,.int .i64 0]:List AV)] h_4) fun r31 h_23=>obind (z17 .i64 r31) fun t31=>some (.ret (.int .i64 t31),h_23)))
set_option maxHeartbeats 4000000 in
set_option maxRecDepth 20000 in
theorem z1f8{call:z11}(hc:SaysAll Try.prog call){n:Nat}{t0:AV}{t1:Int}{t2:zf}{h:AHeap}{rR:ARes}{hR:AHeap}(hF:z81 call n t0 t1 t2 h=some (rR,hR)):Says Try.prog 22 [t0,.int .i64 t1,ze t2] h rR hR:=by
 unfold z81 at hF;refine sO Try.func22 fun w0 m0=>?_;refine wW [(0,t0),(1,.int .i64 t1),(2,ze t2)] ?_;refine oG fun n1=>W.r ?_;refine oA 6 (.int .i64 0) ?_;refine oV [(0,t0),(1,.int .i64 t1),(2,ze t2)] (n1 ?_);refine oH fun n2 q2=>?_;refine oG fun n3=>W.r ?_;refine oA 8 t0 ?_;refine oA 9 (.int .i64 t1) ?_;refine oCi hc 10 hF fun t10 h_4 hF=>?_;refine oA 7 (.int .i64 t10) ?_;refine oV [(0,t0),(1,.int .i64 t1),(2,ze t2),(7,.int .i64 t10)] (n3 ?_);refine oG fun n7=>W.r ?_;refine oA 11 (.int .i64 t10) ?_;refine oB 12 hF fun t12 hF=>?_;refine oV [(0,t0),(1,.int .i64 t1),(2,ze t2),(7,.int .i64 t10),(12,.bool t12)] (n7 ?_)
 cases t12 with
 |true=>
  refine oT hF fun hF=>?_;refine oG fun n9=>W.r ?_;refine oA 13 (.int .i64 t10) ?_;refine oA 6 (.int .i64 t10) ?_;refine oV [(6,.int .i64 t10)] (n9 (oY (q2 ?_)));exact lZ hF [.tmp 6] [.int .i64 t10] (rT zc)
 |false=>
  refine oU hF fun hF=>?_;refine oZ (n2 ?_);refine oH fun n10 q10=>?_;refine oG fun n11=>W.r ?_;refine oA 14 (ze t2) ?_;refine oA 15 (.int .i64 (z7e t2)) ?_;refine oA 16 t0 ?_;refine oA 17 (.int .i64 t1) ?_;refine oC0 18 hF fun t18 hF=>?_;refine oF 19 82 0 hF fun t19 hF=>?_;refine oQ 20 80 79 .i64 hF fun t20 hF=>?_;refine oF 21 79 1 hF fun t21 hF=>?_;refine oF 22 76 1 hF fun t22 hF=>?_;refine oL 23 74 hF fun v23 hF=>?_;refine oM 24 74 5 hF fun t24 hF=>?_;refine oI 25 .i64 hF fun t25 hF=>?_;refine oB 26 hF fun t26 hF=>?_;refine oV [(0,t0),(1,.int .i64 t1),(2,ze t2),(26,.bool t26)] (n11 ?_)
  cases t26 with
  |true=>
   refine oT hF fun hF=>?_;refine oG fun n21=>W.r ?_;refine oA 6 (.int .i64 8) ?_;refine oV [(6,.int .i64 8)] (n21 (oY (q10 ?_)));exact lZ hF [.tmp 6] [.int .i64 8] (rT zc)
  |false=>
   refine oU hF fun hF=>?_;refine oZ (n10 ?_);refine oG fun n22=>W.r ?_;refine oA 27 t0 ?_;refine oA 28 (.int .i64 t1) ?_;refine oA 29 (ze t2) ?_;refine oA 30 (.agg ([.int .i64 0,ze t2,.int .i64 0]:List AV)) ?_;refine oCi hc 31 hF fun t31 h_23 hF=>?_;refine oA 6 (.int .i64 t31) ?_;refine oV [(6,.int .i64 t31)] (n22 (oY ?_));exact lZ hF [.tmp 6] [.int .i64 t31] (rT zc)
noncomputable def zb5(call:z11)(_:Nat)(t0:AV)(t1:Int)(h:AHeap):R:=callN (call 45 [t0,.int .i64 t1] h) fun r9 h_4=>obind (z17 .i64 r9) fun t9=>lett ((t9:Int) != 0) fun (t11:Bool)=>ifB t11 (some (.ret (.int .i64 t9),h_4)) (obind (z34 t0) fun t15=>obind (z20 0 t15) fun t16=>obind (z17b 32 5 t16 t1) fun t17=>obind (z34 t17) fun t19=>obind (z20 0 t19) fun t20=>obind (z34 t17) fun t22=>obind (z20 4 t22) fun t23=>obind (z9 h_4 t23) fun v24=>callN (call 61 [t20,v24] h_4) fun _ h_20=>obind (z34 t17) fun t27=>obind (z20 4 t27) fun t28=>obind (z27 h_20 1 (AV.cells AV.nsl) t28) fun h_25=>callN (call 62 [t0] h_25) fun _ h_28=>some (.ret (.int .i64 0),h_28))
set_option maxHeartbeats 4000000 in
set_option maxRecDepth 20000 in
theorem z269{call:z11}(hc:SaysAll Try.prog call){n:Nat}{t0:AV}{t1:Int}{h:AHeap}{rR:ARes}{hR:AHeap}(hF:zb5 call n t0 t1 h=some (rR,hR)):Says Try.prog 39 [t0,.int .i64 t1] h rR hR:=by
 unfold zb5 at hF;refine sO Try.func39 fun w0 m0=>?_;refine wW [(0,t0),(1,.int .i64 t1)] ?_;refine oG fun n1=>W.r ?_;refine oA 4 (.int .i64 0) ?_;refine oV [(0,t0),(1,.int .i64 t1)] (n1 ?_);refine oH fun n2 q2=>?_;refine oG fun n3=>W.r ?_;refine oA 7 t0 ?_;refine oA 8 (.int .i64 t1) ?_;refine oCi hc 9 hF fun t9 h_4 hF=>?_;refine oA 5 (.int .i64 t9) ?_;refine oV [(0,t0),(1,.int .i64 t1),(5,.int .i64 t9)] (n3 ?_);refine oG fun n7=>W.r ?_;refine oA 10 (.int .i64 t9) ?_;refine oB 11 hF fun t11 hF=>?_;refine oV [(0,t0),(1,.int .i64 t1),(5,.int .i64 t9),(11,.bool t11)] (n7 ?_)
 cases t11 with
 |true=>
  refine oT hF fun hF=>?_;refine oG fun n9=>W.r ?_;refine oA 12 (.int .i64 t9) ?_;refine oA 4 (.int .i64 t9) ?_;refine oV [(4,.int .i64 t9)] (n9 (oY (q2 ?_)));exact lZ hF [.tmp 4] [.int .i64 t9] (rT zc)
 |false=>
  refine oU hF fun hF=>?_;refine oZ (n2 ?_);refine oG fun n10=>W.r ?_;refine oA 13 t0 ?_;refine oA 14 (.int .i64 t1) ?_;refine oC0 15 hF fun t15 hF=>?_;refine oF 16 82 0 hF fun t16 hF=>?_;refine oQ 17 80 79 .i64 hF fun t17 hF=>?_;refine oA 6 t17 ?_;refine oV [(0,t0),(6,t17)] (n10 ?_);refine oG fun n14=>?_;refine y12 (by kernel_rfl) (hc.ok w0) (plan:=[0,1,2,3,4,5,6,7]) (by kernel_rfl) (by kernel_rfl) (by kernel_rfl) ?_;refine WD.a 0 (some 18) t17 h_4 ?_;obtain⟨t19,e15,hF⟩:=z4 hF;refine WD.b 0 (some 19) t19 h_4 (z1f (h:=h_4) e15) ?_;obtain⟨t20,e16,hF⟩:=z4 hF;refine WD.b 0 (some 20) t20 h_4 (z10 (P:=Try.prog) (h:=h_4) (s:=79) (f:=0) (by kernel_rfl) e16) ?_;refine WD.a 0 (some 21) t17 h_4 ?_;obtain⟨t22,e17,hF⟩:=z4 hF;refine WD.b 0 (some 22) t22 h_4 (z1f (h:=h_4) e17) ?_;obtain⟨t23,e18,hF⟩:=z4 hF;refine WD.b 0 (some 23) t23 h_4 (z10 (P:=Try.prog) (h:=h_4) (s:=79) (f:=2) (by kernel_rfl) e18) ?_;obtain⟨v24,e19,hF⟩:=z4 hF;refine WD.b 1 (some 24) v24 h_4 (z12 (P:=Try.prog) (h:=h_4) (t:=77) (by kernel_rfl) e19) ?_;obtain⟨r25,h_20,e21,hF⟩:=z18 hF;refine WD.call (d:=(some 25)) (by kernel_rfl) (by kernel_rfl) (by kernel_rfl) e21 (k:=2) (by kernel_rfl) (fun _=>(by kernel_rfl)) (by decide) ?_;refine WD.nil ?_;refine gW [(0,t0),(6,t17)] (n14 ?_);refine oG fun n22=>W.r ?_;refine oA 26 t17 ?_;refine oC0 27 hF fun t27 hF=>?_;refine oF 28 79 2 hF fun t28 hF=>?_;refine oW 77 AV.nsl hF fun h_25 hF=>?_;refine oV [(0,t0)] (n22 ?_);refine oG fun n27=>W.r ?_;refine oA 29 t0 ?_;refine oC hc (some 30) hF fun r30 h_28 hF=>?_;refine oV [] (n27 ?_);refine oG fun n30=>W.r ?_;refine oA 4 (.int .i64 0) ?_;refine oV [(4,.int .i64 0)] (n30 (oY ?_));exact lZ hF [.tmp 4] [.int .i64 0] (rT zc)
noncomputable def zcc(call:z11)(_:Nat)(t0:AV)(t1:Int)(t2:Int)(h:AHeap):R:=callN (call 45 [t0,.int .i64 t1] h) fun r11 h_4=>obind (z17 .i64 r11) fun t11=>lett ((t11:Int) != 0) fun (t13:Bool)=>ifB t13 (some (.ret (.int .i64 t11),h_4)) (obind (z34 t0) fun t17=>obind (z20 0 t17) fun t18=>obind (z17b 32 5 t18 t1) fun t19=>obind (z20 2 t19) fun t20=>obind (z34 t20) fun t22=>obind (z20 0 t22) fun t23=>obind (z9 h_4 t23) fun v24=>obind (z2f v24) fun t24=>lett (!t24) fun (t25:Bool)=>ifB t25 (some (.ret (.int .i64 4),h_4)) (lett (decide (t2<0)) fun (t27:Bool)=>lett (fun (t36:Bool) (h_26:AHeap)=>ifB t36 (some (.ret (.int .i64 5),h_26)) (callN (call 46 [t0,.int .i64 t1,.agg ([.int .i64 1,.str 0 0,.int .i64 t2]:List AV)] h_26) fun r41 h_31=>obind (z17 .i64 r41) fun t41=>some (.ret (.int .i64 t41),h_31))) fun j36=>ifB t27 (j36 true h_4) (obind (z34 t20) fun t31=>obind (z20 1 t31) fun t32=>obind (z9 h_4 t32) fun v33=>obind (z197 v33) fun t34=>lett (decide (t2>t34)) fun (t35:Bool)=>j36 t35 h_4)))
set_option maxHeartbeats 4000000 in
set_option maxRecDepth 20000 in
theorem z291{call:z11}(hc:SaysAll Try.prog call){n:Nat}{t0:AV}{t1:Int}{t2:Int}{h:AHeap}{rR:ARes}{hR:AHeap}(hF:zcc call n t0 t1 t2 h=some (rR,hR)):Says Try.prog 55 [t0,.int .i64 t1,.int .i64 t2] h rR hR:=by
 unfold zcc at hF;refine sO Try.func55 fun w0 m0=>?_;refine wW [(0,t0),(1,.int .i64 t1),(2,.int .i64 t2)] ?_;refine oG fun n1=>W.r ?_;refine oA 6 (.int .i64 0) ?_;refine oV [(0,t0),(1,.int .i64 t1),(2,.int .i64 t2)] (n1 ?_);refine oH fun n2 q2=>?_;refine oG fun n3=>W.r ?_;refine oA 9 t0 ?_;refine oA 10 (.int .i64 t1) ?_;refine oCi hc 11 hF fun t11 h_4 hF=>?_;refine oA 7 (.int .i64 t11) ?_;refine oV [(0,t0),(1,.int .i64 t1),(2,.int .i64 t2),(7,.int .i64 t11)] (n3 ?_);refine oG fun n7=>W.r ?_;refine oA 12 (.int .i64 t11) ?_;refine oB 13 hF fun t13 hF=>?_;refine oV [(0,t0),(1,.int .i64 t1),(2,.int .i64 t2),(7,.int .i64 t11),(13,.bool t13)] (n7 ?_)
 cases t13 with
 |true=>
  refine oT hF fun hF=>?_;refine oG fun n9=>W.r ?_;refine oA 14 (.int .i64 t11) ?_;refine oA 6 (.int .i64 t11) ?_;refine oV [(6,.int .i64 t11)] (n9 (oY (q2 ?_)));exact lZ hF [.tmp 6] [.int .i64 t11] (rT zc)
 |false=>
  refine oU hF fun hF=>?_;refine oZ (n2 ?_);refine oG fun n10=>W.r ?_;refine oA 15 t0 ?_;refine oA 16 (.int .i64 t1) ?_;refine oC0 17 hF fun t17 hF=>?_;refine oF 18 82 0 hF fun t18 hF=>?_;refine oQ 19 80 79 .i64 hF fun t19 hF=>?_;refine oF 20 79 1 hF fun t20 hF=>?_;refine oA 8 t20 ?_;refine oV [(0,t0),(1,.int .i64 t1),(2,.int .i64 t2),(8,t20)] (n10 ?_);refine oH fun n15 q15=>?_;refine oG fun n16=>W.r ?_;refine oA 21 t20 ?_;refine oC0 22 hF fun t22 hF=>?_;refine oF 23 76 0 hF fun t23 hF=>?_;refine oLb 24 4 hF fun t24 hF=>?_;refine oB 25 hF fun t25 hF=>?_;refine oV [(0,t0),(1,.int .i64 t1),(2,.int .i64 t2),(8,t20),(25,.bool t25)] (n16 ?_)
  cases t25 with
  |true=>
   refine oT hF fun hF=>?_;refine oG fun n22=>W.r ?_;refine oA 6 (.int .i64 4) ?_;refine oV [(6,.int .i64 4)] (n22 (oY (q15 ?_)));exact lZ hF [.tmp 6] [.int .i64 4] (rT zc)
  |false=>
   refine oU hF fun hF=>?_;refine oZ (n15 ?_);refine oH fun n23 q23=>?_;refine W.s (fun K24 n24 e24 q24 p24=>?_);refine W.r ?_;refine oA 26 (.int .i64 t2) ?_;refine oB 27 hF fun t27 hF=>?_;refine oA 28 (.bool t27) ?_;obtain⟨j36,e27,hF⟩:=z7 hF
   have J28:∀(t36:Bool) (h_26:AHeap),j36 t36 h_26=some (rR,hR)→WL Try.prog w0 m0 (Func.ntmps Try.f55) (Code.ops (y6 (y6 (y4 (y4 (y4 (y4 (z3d Try.f55)))))))) 11 K24 [(0,t0),(1,.int .i64 t1),(2,.int .i64 t2),(36,.bool t36)] [] h_26:=by
    intro t36 h_26 hF;rw[e27] at hF;refine oV [(0,t0),(1,.int .i64 t1),(2,.int .i64 t2),(36,.bool t36)] (n24 ?_)
    cases t36 with
    |true=>
     refine oT hF fun hF=>?_;refine oG fun n29=>W.r ?_;refine oA 6 (.int .i64 5) ?_;refine oV [(6,.int .i64 5)] (n29 (oY (q23 ?_)));exact lZ hF [.tmp 6] [.int .i64 5] (rT zc)
    |false=>
     refine oU hF fun hF=>?_;refine oZ (n23 ?_);refine oG fun n30=>W.r ?_;refine oA 37 t0 ?_;refine oA 38 (.int .i64 t1) ?_;refine oA 39 (.int .i64 t2) ?_;refine oA 40 (.agg ([.int .i64 1,.str 0 0,.int .i64 t2]:List AV)) ?_;refine oCi hc 41 hF fun t41 h_31 hF=>?_;refine oA 6 (.int .i64 t41) ?_;refine oV [(6,.int .i64 t41)] (n30 (oY ?_));exact lZ hF [.tmp 6] [.int .i64 t41] (rT zc)
   cases t27 with
   |true=>
    replace hF:=z53 hF
    refine WL.o (some 29) ?_;refine WL.o (some 30) ?_;refine WL.o (some 31) ?_;refine WL.o (some 32) ?_;refine WL.o (some 33) ?_;refine WL.o (some 34) ?_;refine WL.o (some 35) ?_;refine oA 36 (.bool true) ?_;exact lW _ (J28 _ _ hF)
   |false=>
    replace hF:=z54 hF
    refine oA 29 (.int .i64 t2) ?_;refine oA 30 t20 ?_;refine oC0 31 hF fun t31 hF=>?_;refine oF 32 76 1 hF fun t32 hF=>?_;refine oL 33 74 hF fun v33 hF=>?_;refine oM 34 74 5 hF fun t34 hF=>?_;refine oB 35 hF fun t35 hF=>?_;refine oA 36 (.bool t35) ?_;exact lW _ (J28 _ _ hF)
noncomputable def z80(call:z11)(_:Nat)(t0:AV)(t1:Int)(h:AHeap):R:=callN (call 45 [t0,.int .i64 t1] h) fun r8 h_4=>obind (z17 .i64 r8) fun t8=>lett ((t8:Int) != 0) fun (t10:Bool)=>ifB t10 (some (.ret (.int .i64 t8),h_4)) (obind (z34 t0) fun t14=>obind (z20 0 t14) fun t15=>obind (z17b 32 5 t15 t1) fun t16=>obind (z20 2 t16) fun t17=>obind (z20 0 t17) fun t18=>obind (z9 h_4 t18) fun v19=>obind (z2f v19) fun t19=>lett (!t19) fun (t20:Bool)=>ifB t20 (some (.ret (.int .i64 4),h_4)) (callN (call 46 [t0,.int .i64 t1,.agg ([.int .i64 2,.str 0 0,.int .i64 0]:List AV)] h_4) fun r24 h_22=>obind (z17 .i64 r24) fun t24=>some (.ret (.int .i64 t24),h_22)))
set_option maxHeartbeats 4000000 in
set_option maxRecDepth 20000 in
theorem z1f7{call:z11}(hc:SaysAll Try.prog call){n:Nat}{t0:AV}{t1:Int}{h:AHeap}{rR:ARes}{hR:AHeap}(hF:z80 call n t0 t1 h=some (rR,hR)):Says Try.prog 36 [t0,.int .i64 t1] h rR hR:=by
 unfold z80 at hF;refine sO Try.func36 fun w0 m0=>?_;refine wW [(0,t0),(1,.int .i64 t1)] ?_;refine oG fun n1=>W.r ?_;refine oA 4 (.int .i64 0) ?_;refine oV [(0,t0),(1,.int .i64 t1)] (n1 ?_);refine oH fun n2 q2=>?_;refine oG fun n3=>W.r ?_;refine oA 6 t0 ?_;refine oA 7 (.int .i64 t1) ?_;refine oCi hc 8 hF fun t8 h_4 hF=>?_;refine oA 5 (.int .i64 t8) ?_;refine oV [(0,t0),(1,.int .i64 t1),(5,.int .i64 t8)] (n3 ?_);refine oG fun n7=>W.r ?_;refine oA 9 (.int .i64 t8) ?_;refine oB 10 hF fun t10 hF=>?_;refine oV [(0,t0),(1,.int .i64 t1),(5,.int .i64 t8),(10,.bool t10)] (n7 ?_)
 cases t10 with
 |true=>
  refine oT hF fun hF=>?_;refine oG fun n9=>W.r ?_;refine oA 11 (.int .i64 t8) ?_;refine oA 4 (.int .i64 t8) ?_;refine oV [(4,.int .i64 t8)] (n9 (oY (q2 ?_)));exact lZ hF [.tmp 4] [.int .i64 t8] (rT zc)
 |false=>
  refine oU hF fun hF=>?_;refine oZ (n2 ?_);refine oH fun n10 q10=>?_;refine oG fun n11=>W.r ?_;refine oA 12 t0 ?_;refine oA 13 (.int .i64 t1) ?_;refine oC0 14 hF fun t14 hF=>?_;refine oF 15 82 0 hF fun t15 hF=>?_;refine oQ 16 80 79 .i64 hF fun t16 hF=>?_;refine oF 17 79 1 hF fun t17 hF=>?_;refine oF 18 76 0 hF fun t18 hF=>?_;refine oLb 19 4 hF fun t19 hF=>?_;refine oB 20 hF fun t20 hF=>?_;refine oV [(0,t0),(1,.int .i64 t1),(20,.bool t20)] (n11 ?_)
  cases t20 with
  |true=>
   refine oT hF fun hF=>?_;refine oG fun n20=>W.r ?_;refine oA 4 (.int .i64 4) ?_;refine oV [(4,.int .i64 4)] (n20 (oY (q10 ?_)));exact lZ hF [.tmp 4] [.int .i64 4] (rT zc)
  |false=>
   refine oU hF fun hF=>?_;refine oZ (n10 ?_);refine oG fun n21=>W.r ?_;refine oA 21 t0 ?_;refine oA 22 (.int .i64 t1) ?_;refine oA 23 (.agg ([.int .i64 2,.str 0 0,.int .i64 0]:List AV)) ?_;refine oCi hc 24 hF fun t24 h_22 hF=>?_;refine oA 4 (.int .i64 t24) ?_;refine oV [(4,.int .i64 t24)] (n21 (oY ?_));exact lZ hF [.tmp 4] [.int .i64 t24] (rT zc)
noncomputable def z9c(_:z11)(_:Nat)(t0:AV)(t1:Int)(h:AHeap):R:=
 outK (z65 Try.prog h .eql 23 true (some t0) (some AV.nilp)) fun v6 h_4=>
 obind (z2f v6) fun t6=>
 ifB t6
 (
  some (.ret (.int .i64 1),h_4))
 (
  lett (if (-1)>t1 then (-1) else t1) fun (t9:Int)=>
  obind (z34 t0) fun t10=>
  obind (z20 160 t10) fun t11=>
  obind (z27 h_4 1 [.int .i64 t9] t11) fun h_12=>
  some (.ret (.int .i64 0),h_12))
set_option maxHeartbeats 4000000 in
set_option maxRecDepth 20000 in
theorem z231{call:z11}(_:SaysAll Try.prog call){n:Nat}{t0:AV}{t1:Int}{h:AHeap}{rR:ARes}{hR:AHeap}(hF:z9c call n t0 t1 h=some (rR,hR)):Says Try.prog 14 [t0,.int .i64 t1] h rR hR:=by
 unfold z9c at hF;refine sO Try.func14 fun w0 m0=>?_;refine wW [(0,t0),(1,.int .i64 t1)] ?_;refine oG fun n1=>W.r ?_;refine oA 4 (.int .i64 0) ?_;refine oV [(0,t0),(1,.int .i64 t1)] (n1 ?_);refine oH fun n2 q2=>?_;refine oG fun n3=>W.r ?_;refine oA 5 t0 ?_
 replace hF:=z26 hF;obtain⟨v6,h_4,e5,hF⟩:=hF
 replace hF:=z4 hF;obtain⟨t6,c6,hF⟩:=hF
 have c6:=z1e c6;subst c6;refine WL.b (some 6) (.bool t6) h_4 e5 ?_;refine oV [(0,t0),(1,.int .i64 t1),(6,.bool t6)] (n3 ?_)
 cases t6 with
 |true=>
  refine oT hF fun hF=>?_;refine oG fun n7=>W.r ?_;refine oA 4 (.int .i64 1) ?_;refine oV [(4,.int .i64 1)] (n7 (oY (q2 ?_)));exact lZ hF [.tmp 4] [.int .i64 1] (rT zc)
 |false=>
  refine oU hF fun hF=>?_;refine oZ (n2 ?_);refine oG fun n8=>W.r ?_;refine oA 7 t0 ?_;refine oA 8 (.int .i64 t1) ?_;refine oI 9 .i64 hF fun t9 hF=>?_;refine oC0 10 hF fun t10 hF=>?_;refine oF 11 82 1 hF fun t11 hF=>?_;refine oW 3 (.int .i64 t9) hF fun h_12 hF=>?_;refine oV [] (n8 ?_);refine oG fun n14=>W.r ?_;refine oA 4 (.int .i64 0) ?_;refine oV [(4,.int .i64 0)] (n14 (oY ?_));exact lZ hF [.tmp 4] [.int .i64 0] (rT zc)
noncomputable def zf6(_:z11)(_:Nat)(t0:AV)(h:AHeap):R:=outK (z65 Try.prog h .neq 23 true (some t0) (some AV.nilp)) fun v4 h_3=>obind (z2f v4) fun t4=>lett (fun (t11:Bool) (h_6:AHeap)=>some (.ret (.bool t11),h_6)) fun j11=>ifB t4 (obind (z34 t0) fun t7=>obind (z20 160 t7) fun t8=>obind (z9 h_3 t8) fun v9=>obind (z17 .i64 v9) fun t9=>lett ((t9:Int) != 0) fun (t10:Bool)=>j11 t10 h_3) (j11 false h_3)
set_option maxHeartbeats 4000000 in
set_option maxRecDepth 20000 in
theorem z2d4{call:z11}(_:SaysAll Try.prog call){n:Nat}{t0:AV}{h:AHeap}{rR:ARes}{hR:AHeap}(hF:zf6 call n t0 h=some (rR,hR)):Says Try.prog 28 [t0] h rR hR:=by
 unfold zf6 at hF;refine sO Try.func28 fun w0 m0=>?_;refine wW [(0,t0)] ?_;refine oG fun n1=>W.r ?_;refine oA 2 (.bool false) ?_;refine oV [(0,t0)] (n1 ?_);refine W.s (fun K2 n2 e2 q2 p2=>?_);refine W.r ?_;refine oA 3 t0 ?_
 replace hF:=z26 hF;obtain⟨v4,h_3,e4,hF⟩:=hF
 replace hF:=z4 hF;obtain⟨t4,c5,hF⟩:=hF
 have c5:=z1e c5;subst c5;refine WL.b (some 4) (.bool t4) h_3 e4 ?_;refine oA 5 (.bool t4) ?_;obtain⟨j11,e7,hF⟩:=z7 hF
 have J8:∀(t11:Bool) (h_6:AHeap),j11 t11 h_6=some (rR,hR)→WL Try.prog w0 m0 (Func.ntmps Try.f28) (Code.ops (y6 (y4 (z3d Try.f28)))) 9 K2 [(11,.bool t11)] [] h_6:=by
  intro t11 h_6 hF;rw[e7] at hF;refine oA 2 (.bool t11) ?_;refine oV [(2,.bool t11)] (n2 (oY ?_));exact lZ hF [.tmp 2] [.bool t11] (rT zc)
 cases t4 with
 |true=>
  replace hF:=z53 hF
  refine oA 6 t0 ?_;refine oC0 7 hF fun t7 hF=>?_;refine oF 8 82 1 hF fun t8 hF=>?_;refine oLi 9 3 hF fun t9 hF=>?_;refine oB 10 hF fun t10 hF=>?_;refine oA 11 (.bool t10) ?_;exact lW _ (J8 _ _ hF)
 |false=>
  replace hF:=z54 hF
  refine WL.o (some 6) ?_;refine WL.o (some 7) ?_;refine WL.o (some 8) ?_;refine WL.o (some 9) ?_;refine WL.o (some 10) ?_;refine oA 11 (.bool false) ?_;exact lW _ (J8 _ _ hF)
noncomputable def zcb(_:z11)(_:Nat)(t0:AV)(h:AHeap):R:=outK (z65 Try.prog h .eql 23 true (some t0) (some AV.nilp)) fun v4 h_4=>obind (z2f v4) fun t4=>ifB t4 (some (.ret (.int .i64 0),h_4)) (obind (z34 t0) fun t6=>obind (z20 161 t6) fun t7=>obind (z9 h_4 t7) fun v8=>obind (z17 .i64 v8) fun t8=>some (.ret (.int .i64 t8),h_4))
set_option maxHeartbeats 4000000 in
set_option maxRecDepth 20000 in
theorem z290{call:z11}(_:SaysAll Try.prog call){n:Nat}{t0:AV}{h:AHeap}{rR:ARes}{hR:AHeap}(hF:zcb call n t0 h=some (rR,hR)):Says Try.prog 13 [t0] h rR hR:=by
 unfold zcb at hF;refine sO Try.func13 fun w0 m0=>?_;refine wW [(0,t0)] ?_;refine oG fun n1=>W.r ?_;refine oA 2 (.int .i64 0) ?_;refine oV [(0,t0)] (n1 ?_);refine oH fun n2 q2=>?_;refine oG fun n3=>W.r ?_;refine oA 3 t0 ?_
 replace hF:=z26 hF;obtain⟨v4,h_4,e5,hF⟩:=hF
 replace hF:=z4 hF;obtain⟨t4,c6,hF⟩:=hF
 have c6:=z1e c6;subst c6;refine WL.b (some 4) (.bool t4) h_4 e5 ?_;refine oV [(0,t0),(4,.bool t4)] (n3 ?_)
 cases t4 with
 |true=>
  refine oT hF fun hF=>?_;refine oG fun n7=>W.r ?_;refine oA 2 (.int .i64 0) ?_;refine oV [(2,.int .i64 0)] (n7 (oY (q2 ?_)));exact lZ hF [.tmp 2] [.int .i64 0] (rT zc)
 |false=>
  refine oU hF fun hF=>?_;refine oZ (n2 ?_);refine oG fun n8=>W.r ?_;refine oA 5 t0 ?_;refine oC0 6 hF fun t6 hF=>?_;refine oF 7 82 2 hF fun t7 hF=>?_;refine oLi 8 3 hF fun t8 hF=>?_;refine oA 2 (.int .i64 t8) ?_;refine oV [(2,.int .i64 t8)] (n8 (oY ?_));exact lZ hF [.tmp 2] [.int .i64 t8] (rT zc)
noncomputable def z6c(call:z11)(_:Nat)(t0:AV)(t1:Int)(h:AHeap):R:=outK (z65 Try.prog h .eql 23 true (some t0) (some AV.nilp)) fun v7 h_5=>obind (z2f v7) fun t7=>ifB t7 (some (.ret (.int .i64 1),h_5)) (callN (call 28 [t0] h_5) fun r10 h_10=>obind (z2f r10) fun t10=>lett (!t10) fun (t11:Bool)=>ifB t11 (some (.ret (.int .i64 40),h_10)) (callN (call 51 [.int .i64 t1] h_10) fun r14 h_16=>obind (z2f r14) fun t14=>lett (!t14) fun (t15:Bool)=>ifB t15 (some (.ret (.int .i64 2),h_16)) (some (.ret (.int .i64 0),h_16))))
set_option maxHeartbeats 4000000 in
set_option maxRecDepth 20000 in
theorem z1cd{call:z11}(hc:SaysAll Try.prog call){n:Nat}{t0:AV}{t1:Int}{h:AHeap}{rR:ARes}{hR:AHeap}(hF:z6c call n t0 t1 h=some (rR,hR)):Says Try.prog 45 [t0,.int .i64 t1] h rR hR:=by
 unfold z6c at hF;refine sO Try.func45 fun w0 m0=>?_;refine wW [(0,t0),(1,.int .i64 t1)] ?_;refine oG fun n1=>W.r ?_;refine oA 4 (.int .i64 0) ?_;refine oV [(0,t0),(1,.int .i64 t1)] (n1 ?_);refine oH fun n2 q2=>?_;refine W.blockK (by kernel_rfl) (fun K3 n3 s3 o3 q3 p3=>?_);refine oG fun n4=>W.r ?_;refine oA 6 t0 ?_
 replace hF:=z26 hF;obtain⟨v7,h_5,e6,hF⟩:=hF
 replace hF:=z4 hF;obtain⟨t7,c7,hF⟩:=hF
 have c7:=z1e c7;subst c7;refine WL.b (some 7) (.bool t7) h_5 e6 ?_;refine oA 5 (.bool t7) ?_;refine oV [(0,t0),(1,.int .i64 t1),(5,.bool t7)] (n4 ?_)
 cases t7 with
 |true=>
  refine oT hF fun hF=>?_;refine oG fun n8=>W.r ?_;refine oA 4 (.int .i64 1) ?_;refine oV [(4,.int .i64 1)] (n8 (oY (q3 (q2 ?_))));exact lZ hF [.tmp 4] [.int .i64 1] (rT zc)
 |false=>
  refine oU hF fun hF=>?_;refine oG fun n9=>W.r ?_;refine oA 9 t0 ?_;refine oCb hc 10 hF fun t10 h_10 hF=>?_;refine oB 11 hF fun t11 hF=>?_;refine oA 8 (.bool t11) ?_;refine oV [(1,.int .i64 t1),(8,.bool t11)] (n9 ?_)
  cases t11 with
  |true=>
   refine oT hF fun hF=>?_;refine oG fun n14=>W.r ?_;refine oA 4 (.int .i64 40) ?_;refine oV [(4,.int .i64 40)] (n14 (oY (q3 (q2 ?_))));exact lZ hF [.tmp 4] [.int .i64 40] (rT zc)
  |false=>
   refine oU hF fun hF=>?_;refine oG fun n15=>W.r ?_;refine oA 13 (.int .i64 t1) ?_;refine oCb hc 14 hF fun t14 h_16 hF=>?_;refine oB 15 hF fun t15 hF=>?_;refine oA 12 (.bool t15) ?_;refine oV [(12,.bool t15)] (n15 ?_)
   cases t15 with
   |true=>
    refine oT hF fun hF=>?_;refine oG fun n20=>W.r ?_;refine oA 4 (.int .i64 2) ?_;refine oV [(4,.int .i64 2)] (n20 (oY (q3 (q2 ?_))));exact lZ hF [.tmp 4] [.int .i64 2] (rT zc)
   |false=>
    refine oU hF fun hF=>?_;refine oZ (n3 (n2 ?_));refine oG fun n21=>W.r ?_;refine oA 4 (.int .i64 0) ?_;refine oV [(4,.int .i64 0)] (n21 (oY ?_));exact lZ hF [.tmp 4] [.int .i64 0] (rT zc)
noncomputable def z7f(call:z11)(_:Nat)(t0:AV)(t1:Int)(t2:List AV)(h:AHeap):R:=
 outK (zba h 110 (some (.agg t2))) fun v5 h_2=>
 obind (z34 t0) fun t10=>
 obind (z20 0 t10) fun t11=>
 obind (z17b 32 5 t11 t1) fun t12=>
 obind (z34 t12) fun t14=>
 obind (z20 2 t14) fun t15=>
 obind (z2b h_2 3 v5) fun t16=>
 outK (z178 Try.prog h_2 77 1 [(0,.agg t16)]) fun v17 h_12=>
 callN (call 61 [t15,v17] h_12) fun _ h_14=>
 obind (z34 t12) fun t21=>
 obind (z20 4 t21) fun t22=>
 obind (z9 h_14 t22) fun v23=>
 obind (z2b h_14 3 v5) fun t24=>
 outK (z178 Try.prog h_14 77 1 [(0,.agg t24)]) fun v25 h_21=>
 chk (true&&(z6e Try.prog h_21 77 t22 v23&&true))<|
 outK (z41 Try.prog h_21 77 77 v23 v25) fun v26 h_24=>
 obind (z34 t12) fun t27=>
 obind (z20 4 t27) fun t28=>
 obind (z27 h_24 1 (AV.cells v26) t28) fun h_28=>
 callN (call 62 [t0] h_28) fun _ h_31=>
 some (.ret (.int .i64 0),h_31)
set_option maxHeartbeats 4000000 in
set_option maxRecDepth 20000 in
theorem z1f6{call:z11}(hc:SaysAll Try.prog call){n:Nat}{t0:AV}{t1:Int}{t2:List AV}{h:AHeap}{rR:ARes}{hR:AHeap}(hF:z7f call n t0 t1 t2 h=some (rR,hR)):Says Try.prog 46 [t0,.int .i64 t1,.agg t2] h rR hR:=by
 unfold z7f at hF;refine sO Try.func46 fun w0 m0=>?_;refine wW [(0,t0),(1,.int .i64 t1),(2,.agg t2)] ?_;refine oG fun n1=>W.r ?_;refine oK 5 hF fun v5 h_2 hF=>?_;refine oA 6 (.int .i64 0) ?_;refine oV [(0,t0),(1,.int .i64 t1),(5,v5)] (n1 ?_);refine oG fun n4=>W.r ?_;refine oA 8 t0 ?_;refine oA 9 (.int .i64 t1) ?_;refine oC0 10 hF fun t10 hF=>?_;refine oF 11 82 0 hF fun t11 hF=>?_;refine oQ 12 80 79 .i64 hF fun t12 hF=>?_;refine oA 7 t12 ?_;refine oV [(0,t0),(5,v5),(7,t12)] (n4 ?_);refine oG fun n8=>?_;refine y12 (by kernel_rfl) (hc.ok w0) (plan:=[0,1,2,3,4,5]) (by kernel_rfl) (by kernel_rfl) (by kernel_rfl) ?_;refine WD.a 0 (some 13) t12 h_2 ?_;obtain⟨t14,e9,hF⟩:=z4 hF;refine WD.b 0 (some 14) t14 h_2 (z1f (h:=h_2) e9) ?_;obtain⟨t15,e10,hF⟩:=z4 hF;refine WD.b 0 (some 15) t15 h_2 (z10 (P:=Try.prog) (h:=h_2) (s:=79) (f:=1) (by kernel_rfl) e10) ?_;obtain⟨t16,e11,hF⟩:=z4 hF;refine WD.b 1 (some 16) (.agg t16) h_2 (z36 (P:=Try.prog) (h:=h_2) (t:=110) (by kernel_rfl) (by kernel_rfl) e11) ?_;obtain⟨v17,h_12,e13,hF⟩:=z26 hF;refine WD.val (d:=(some 17)) (v:=v17) (h':=h_12) (by kernel_rfl) (by kernel_rfl) (Eq.trans (by kernel_rfl) e13) (k:=2) (by kernel_rfl) (fun _=>(by kernel_rfl)) (by decide) ?_;obtain⟨r18,h_14,e15,hF⟩:=z18 hF;refine WD.call (d:=(some 18)) (by kernel_rfl) (by kernel_rfl) (by kernel_rfl) e15 (k:=2) (by kernel_rfl) (fun _=>(by kernel_rfl)) (by decide) ?_;refine WD.nil ?_;refine gW [(0,t0),(5,v5),(7,t12)] (n8 ?_);refine oG fun n16=>?_;refine y12 (by kernel_rfl) (hc.ok w0) (plan:=[0,1,2,3,4,5,6,7,8,9,10]) (by kernel_rfl) (by kernel_rfl) (by kernel_rfl) ?_;refine WD.a 0 (some 19) t12 h_14 ?_;refine WD.a 0 (some 20) t12 h_14 ?_;obtain⟨t21,e17,hF⟩:=z4 hF;refine WD.b 0 (some 21) t21 h_14 (z1f (h:=h_14) e17) ?_;obtain⟨t22,e18,hF⟩:=z4 hF;refine WD.b 0 (some 22) t22 h_14 (z10 (P:=Try.prog) (h:=h_14) (s:=79) (f:=2) (by kernel_rfl) e18) ?_;obtain⟨v23,e19,hF⟩:=z4 hF;refine WD.b 1 (some 23) v23 h_14 (z12 (P:=Try.prog) (h:=h_14) (t:=77) (by kernel_rfl) e19) ?_;obtain⟨t24,e20,hF⟩:=z4 hF;refine WD.b 1 (some 24) (.agg t24) h_14 (z36 (P:=Try.prog) (h:=h_14) (t:=110) (by kernel_rfl) (by kernel_rfl) e20) ?_;obtain⟨v25,h_21,e22,hF⟩:=z26 hF;obtain⟨k23,hF⟩:=z8a hF;refine WD.val (d:=(some 25)) (v:=v25) (h':=h_21) (by kernel_rfl) (by kernel_rfl) (Eq.trans (by kernel_rfl) e22) (k:=2) (by kernel_rfl) (fun _=>(Eq.trans (by kernel_rfl) k23)) (by decide) ?_;obtain⟨v26,h_24,e25,hF⟩:=z26 hF;refine WD.val (d:=(some 26)) (v:=v26) (h':=h_24) (by kernel_rfl) (by kernel_rfl) (Eq.trans (by kernel_rfl) e25) (k:=2) (by kernel_rfl) (fun _=>(by kernel_rfl)) (by decide) ?_;obtain⟨t27,e26,hF⟩:=z4 hF;refine WD.b 0 (some 27) t27 h_24 (z1f (h:=h_24) e26) ?_;obtain⟨t28,e27,hF⟩:=z4 hF;refine WD.b 0 (some 28) t28 h_24 (z10 (P:=Try.prog) (h:=h_24) (s:=79) (f:=2) (by kernel_rfl) e27) ?_;obtain⟨h_28,e29,hF⟩:=z4 hF;refine WD.eff (h':=h_28) (by kernel_rfl) (by kernel_rfl) (Eq.trans (by kernel_rfl) (z2c (P:=Try.prog) (h:=h_24) (t:=77) (v:=v26) (by kernel_rfl) (by kernel_rfl) e29)) (k:=2) (by kernel_rfl) (fun _=>(by kernel_rfl)) (by decide) ?_;refine WD.nil ?_;refine gW [(0,t0)] (n16 ?_);refine oG fun n30=>W.r ?_;refine oA 29 t0 ?_;refine oC hc (some 30) hF fun r30 h_31 hF=>?_;refine oV [] (n30 ?_);refine oG fun n33=>W.r ?_;refine oA 6 (.int .i64 0) ?_;refine oV [(6,.int .i64 0)] (n33 (oY ?_));exact lZ hF [.tmp 6] [.int .i64 0] (rT zc)
noncomputable def z73(t0:AV)(t1:AV)(t7:Int)(k4:AHeap→R)(self:Int→AHeap→R)(t8:Int)(h_7:AHeap):R:=lett (decide (t8<t7)) fun (t9:Bool)=>ifB t9 (obind (z18d 3 t1 t8) fun t10=>obind (z2b h_7 3 t10) fun t11=>lett (newH h_7 110 [.int .i64 0,.str 0 0,.int .i64 0]) fun h_16=>obind (z27 h_16 3 t11 (z1a h_7)) fun h_18=>obind (z9 h_18 (AV.ptr (AHeap.next h_7) 0)) fun v13=>obind (z17 .i64 v13) fun t13=>lett ((t13:Int) == 0) fun (t15:Bool)=>lett (fun (h_27:AHeap)=>lett (IntKind.i64.wrap (t8+1)) fun (t46:Int)=>self t46 h_27) fun k26=>ifB t15 (obind (z34 t0) fun t17=>obind (z20 0 t17) fun t18=>obind (z27 h_18 1 [.bool true] t18) fun h_32=>obind (z34 t0) fun t21=>obind (z20 1 t21) fun t22=>obind (z9 h_32 t22) fun v23=>obind (z9 h_32 (AV.ptr (AHeap.next h_7) 1)) fun v25=>obind (z31 v25) fun t25=>outK (z41 Try.prog h_32 74 9 v23 (ze t25)) fun v26 h_39=>obind (z34 t0) fun t27=>obind (z20 1 t27) fun t28=>obind (z27 h_39 1 (AV.cells v26) t28) fun h_43=>k26 h_43) (lett ((t13:Int) == 1) fun (t30:Bool)=>lett (fun (h_48:AHeap)=>k26 h_48) fun k47=>ifB t30 (obind (z34 t0) fun t33=>obind (z20 1 t33) fun t34=>obind (z9 h_18 t34) fun v35=>obind (z9 h_18 (AV.ptr (AHeap.next h_7) 2)) fun v37=>obind (z17 .i64 v37) fun t37=>outK (z10d Try.prog h_18 74 v35 none (some (.int .i64 t37))) fun v38 h_54=>obind (z34 t0) fun t39=>obind (z20 1 t39) fun t40=>obind (z27 h_54 1 (AV.cells v38) t40) fun h_58=>k47 h_58) (lett ((t13:Int) == 2) fun (t42:Bool)=>lett (fun (h_63:AHeap)=>k47 h_63) fun k62=>ifB t42 (obind (z34 t0) fun t45=>obind (z27 h_18 2 ([.bool false,.nsl]:List AV) t45) fun h_65=>k62 h_65) (k62 h_18)))) (k4 h_7)
noncomputable def z87(t0:AV)(t1:AV)(t7:Int)(k4:AHeap→R):Nat→Int→AHeap→R:=z130 (fun _ _=>none) (z73 t0 t1 t7 k4)
theorem zd4(t0:AV)(t1:AV)(t7:Int)(k4:AHeap→R)(m:Nat):z87 t0 t1 t7 k4 (m+1)=z73 t0 t1 t7 k4 (z87 t0 t1 t7 k4 m):=rfl
noncomputable def z9b(_:z11)(n:Nat)(t0:AV)(t1:AV)(h:AHeap):R:=obind (z197 t1) fun t7=>lett (fun (h_5:AHeap)=>some (.ret (.tup []),h_5)) fun k4=>z87 t0 t1 t7 k4 n 0 h
set_option maxHeartbeats 4000000 in
set_option maxRecDepth 20000 in
theorem z230{call:z11}(hc:SaysAll Try.prog call){n:Nat}{t0:AV}{t1:AV}{h:AHeap}{rR:ARes}{hR:AHeap}(hF:z9b call n t0 t1 h=some (rR,hR)):Says Try.prog 61 [t0,t1] h rR hR:=by
 unfold z9b at hF;refine sO Try.func61 fun w0 m0=>?_;refine wW [(0,t0),(1,t1)] ?_;refine oG fun n1=>W.r ?_;refine oA 6 t1 ?_;refine oM 7 77 110 hF fun t7 hF=>?_;refine oA 8 (.int .i64 0) ?_;refine oV [(0,t0),(6,t1),(7,.int .i64 t7),(8,.int .i64 0)] (n1 ?_);obtain⟨k4,e4,hF⟩:=z7 hF
 have J4:∀(h_5:AHeap),k4 h_5=some (rR,hR)→Go w0 m0 (Func.ntmps Try.f61) (Fin Try.prog Try.f61 w0 m0 rR hR .normal) [] [] h_5:=by
  intro h_5 hF;rw[e4] at hF;exact lY hF [] [] zc
 refine W.blockK (by kernel_rfl) (fun K3 n3 s3 o3 q3 p3=>?_);refine W.loopK (by kernel_rfl) (fun I6 K6 b6 n6 e6 q6 p6=>?_)
 have L6:∀(m:Nat) (t8:Int) (h_7:AHeap),z87 t0 t1 t7 k4 m t8 h_7=some (rR,hR)→Go w0 m0 (Func.ntmps Try.f61) I6 [(0,t0),(6,t1),(7,.int .i64 t7),(8,.int .i64 t8)] [] h_7:=by
  intro m
  induction m with
  |zero=>intro t8 h_7 hF;cases hF
  |succ m ih6=>
   intro t8 h_7 hF;rw[zd4] at hF;unfold z73 at hF;refine b6 ?_;refine oG fun n8=>W.r ?_;refine oB 9 hF fun t9 hF=>?_;refine oV [(0,t0),(6,t1),(7,.int .i64 t7),(8,.int .i64 t8),(9,.bool t9)] (n8 ?_);refine W.s (fun K10 n10 e10 q10 p10=>?_)
   cases t9 with
   |true=>
    refine oT hF fun hF=>?_;refine oZ (n10 ?_);refine oG fun n11=>?_;refine W.blockK (by kernel_rfl) (fun K12 n12 s12 o12 q12 p12=>?_);refine oG fun n13=>W.r ?_;refine oP 10 77 110 .i64 hF fun t10 hF=>?_;refine oR 11 110 hF fun t11 hF=>?_;refine oN 5 hF fun h_16 hF=>?_;refine oW 110 (.agg t11) hF fun h_18 hF=>?_;refine oV [(0,t0),(5,(z1a h_7)),(6,t1),(7,.int .i64 t7),(8,.int .i64 t8)] (n13 ?_);refine oG fun n20=>W.r ?_;refine oA 12 (AV.ptr (AHeap.next h_7) 0) ?_;refine oLi 13 108 hF fun t13 hF=>?_;refine oV [(0,t0),(5,(z1a h_7)),(6,t1),(7,.int .i64 t7),(8,.int .i64 t8),(13,.int .i64 t13)] (n20 ?_);refine W.blockK (by kernel_rfl) (fun K23 n23 s23 o23 q23 p23=>?_);refine oG fun n24=>W.r ?_;refine oB 15 hF fun t15 hF=>?_;refine oA 14 (.bool t15) ?_;refine oV [(0,t0),(5,(z1a h_7)),(6,t1),(7,.int .i64 t7),(8,.int .i64 t8),(13,.int .i64 t13),(14,.bool t15)] (n24 ?_);obtain⟨k26,e26,hF⟩:=z7 hF
    have J26:∀(h_27:AHeap),k26 h_27=some (rR,hR)→Go w0 m0 (Func.ntmps Try.f61) (K23 .normal) [(0,t0),(6,t1),(7,.int .i64 t7),(8,.int .i64 t8)] [] h_27:=by
     intro h_27 hF;rw[e26] at hF;refine n23 (n12 (n11 (W.r ?_)));refine oI 46 .i64 hF fun t46 hF=>?_;refine oA 8 (.int .i64 t46) ?_;refine oV [(0,t0),(6,t1),(7,.int .i64 t7),(8,.int .i64 t46)] (n6 ?_);exact gW _ (ih6 _ _ hF)
    cases t15 with
    |true=>
     refine oT hF fun hF=>?_;refine oG fun n29=>W.r ?_;refine oA 16 t0 ?_;refine oC0 17 hF fun t17 hF=>?_;refine oF 18 76 0 hF fun t18 hF=>?_;refine oW 4 (.bool true) hF fun h_32 hF=>?_;refine oV [(0,t0),(5,(z1a h_7)),(6,t1),(7,.int .i64 t7),(8,.int .i64 t8)] (n29 ?_);refine y12 (by kernel_rfl) (hc.ok w0) (plan:=[0,1,2,3,4,5,6,7,8,9,10]) (by kernel_rfl) (by kernel_rfl) (by kernel_rfl) ?_;refine WD.a 0 (some 19) t0 h_32 ?_;refine WD.a 0 (some 20) t0 h_32 ?_;obtain⟨t21,e34,hF⟩:=z4 hF;refine WD.b 0 (some 21) t21 h_32 (z1f (h:=h_32) e34) ?_;obtain⟨t22,e35,hF⟩:=z4 hF;refine WD.b 0 (some 22) t22 h_32 (z10 (P:=Try.prog) (h:=h_32) (s:=76) (f:=1) (by kernel_rfl) e35) ?_;obtain⟨v23,e36,hF⟩:=z4 hF;refine WD.b 1 (some 23) v23 h_32 (z12 (P:=Try.prog) (h:=h_32) (t:=74) (by kernel_rfl) e36) ?_;refine WD.a 0 (some 24) (AV.ptr (AHeap.next h_7) 1) h_32 ?_
     replace hF:=z4 hF;obtain⟨v25,e37,hF⟩:=hF
     replace hF:=z4 hF;obtain⟨t25,c38,hF⟩:=hF
     have c38:=z22 c38;subst c38;refine WD.b 1 (some 25) (ze t25) h_32 (z12 (P:=Try.prog) (h:=h_32) (t:=9) (by kernel_rfl) e37) ?_;obtain⟨v26,h_39,e40,hF⟩:=z26 hF;refine WD.val (d:=(some 26)) (v:=v26) (h':=h_39) (by kernel_rfl) (by kernel_rfl) (Eq.trans (by kernel_rfl) e40) (k:=2) (by kernel_rfl) (fun _=>(by kernel_rfl)) (by decide) ?_;obtain⟨t27,e41,hF⟩:=z4 hF;refine WD.b 0 (some 27) t27 h_39 (z1f (h:=h_39) e41) ?_;obtain⟨t28,e42,hF⟩:=z4 hF;refine WD.b 0 (some 28) t28 h_39 (z10 (P:=Try.prog) (h:=h_39) (s:=76) (f:=1) (by kernel_rfl) e42) ?_;obtain⟨h_43,e44,hF⟩:=z4 hF;refine WD.eff (h':=h_43) (by kernel_rfl) (by kernel_rfl) (Eq.trans (by kernel_rfl) (z2c (P:=Try.prog) (h:=h_39) (t:=74) (v:=v26) (by kernel_rfl) (by kernel_rfl) e44)) (k:=2) (by kernel_rfl) (fun _=>(by kernel_rfl)) (by decide) ?_;refine WD.nil ?_;refine gW [(0,t0),(6,t1),(7,.int .i64 t7),(8,.int .i64 t8)] ?_;exact gW _ (J26 _ hF)
    |false=>
     refine oU hF fun hF=>?_;refine oG fun n45=>W.r ?_;refine oB 30 hF fun t30 hF=>?_;refine oA 29 (.bool t30) ?_;refine oV [(0,t0),(5,(z1a h_7)),(6,t1),(7,.int .i64 t7),(8,.int .i64 t8),(13,.int .i64 t13),(29,.bool t30)] (n45 ?_);obtain⟨k47,e47,hF⟩:=z7 hF
     have J47:∀(h_48:AHeap),k47 h_48=some (rR,hR)→Go w0 m0 (Func.ntmps Try.f61) (K23 .normal) [(0,t0),(6,t1),(7,.int .i64 t7),(8,.int .i64 t8)] [] h_48:=by
      intro h_48 hF;rw[e47] at hF;exact gW _ (J26 _ hF)
     cases t30 with
     |true=>
      refine oT hF fun hF=>?_;refine y12 (by kernel_rfl) (hc.ok w0) (plan:=[0,1,2,3,4,5,6,7,8,9,10]) (by kernel_rfl) (by kernel_rfl) (by kernel_rfl) ?_;refine WD.a 0 (some 31) t0 h_18 ?_;refine WD.a 0 (some 32) t0 h_18 ?_;obtain⟨t33,e49,hF⟩:=z4 hF;refine WD.b 0 (some 33) t33 h_18 (z1f (h:=h_18) e49) ?_;obtain⟨t34,e50,hF⟩:=z4 hF;refine WD.b 0 (some 34) t34 h_18 (z10 (P:=Try.prog) (h:=h_18) (s:=76) (f:=1) (by kernel_rfl) e50) ?_;obtain⟨v35,e51,hF⟩:=z4 hF;refine WD.b 1 (some 35) v35 h_18 (z12 (P:=Try.prog) (h:=h_18) (t:=74) (by kernel_rfl) e51) ?_;refine WD.a 0 (some 36) (AV.ptr (AHeap.next h_7) 2) h_18 ?_
      replace hF:=z4 hF;obtain⟨v37,e52,hF⟩:=hF
      replace hF:=z4 hF;obtain⟨t37,c53,hF⟩:=hF
      have c53:=z15 c53;subst c53;refine WD.b 1 (some 37) (.int .i64 t37) h_18 (z12 (P:=Try.prog) (h:=h_18) (t:=3) (by kernel_rfl) e52) ?_;obtain⟨v38,h_54,e55,hF⟩:=z26 hF;refine WD.b 0 (some 38) v38 h_54 e55 ?_;obtain⟨t39,e56,hF⟩:=z4 hF;refine WD.b 0 (some 39) t39 h_54 (z1f (h:=h_54) e56) ?_;obtain⟨t40,e57,hF⟩:=z4 hF;refine WD.b 0 (some 40) t40 h_54 (z10 (P:=Try.prog) (h:=h_54) (s:=76) (f:=1) (by kernel_rfl) e57) ?_;obtain⟨h_58,e59,hF⟩:=z4 hF;refine WD.eff (h':=h_58) (by kernel_rfl) (by kernel_rfl) (Eq.trans (by kernel_rfl) (z2c (P:=Try.prog) (h:=h_54) (t:=74) (v:=v38) (by kernel_rfl) (by kernel_rfl) e59)) (k:=2) (by kernel_rfl) (fun _=>(by kernel_rfl)) (by decide) ?_;refine WD.nil ?_;refine gW [(0,t0),(6,t1),(7,.int .i64 t7),(8,.int .i64 t8)] ?_;exact gW _ (J47 _ hF)
     |false=>
      refine oU hF fun hF=>?_;refine oG fun n60=>W.r ?_;refine oB 42 hF fun t42 hF=>?_;refine oA 41 (.bool t42) ?_;refine oV [(0,t0),(6,t1),(7,.int .i64 t7),(8,.int .i64 t8),(41,.bool t42)] (n60 ?_);obtain⟨k62,e62,hF⟩:=z7 hF
      have J62:∀(h_63:AHeap),k62 h_63=some (rR,hR)→Go w0 m0 (Func.ntmps Try.f61) (K23 .normal) [(0,t0),(6,t1),(7,.int .i64 t7),(8,.int .i64 t8)] [] h_63:=by
       intro h_63 hF;rw[e62] at hF;exact gW _ (J47 _ hF)
      cases t42 with
      |true=>
       refine oT hF fun hF=>?_;refine W.r ?_;refine oA 43 t0 ?_;refine oA 44 (.agg ([.bool false,.nsl]:List AV)) ?_;refine oC0 45 hF fun t45 hF=>?_;refine oW 76 (.agg ([.bool false,.nsl]:List AV)) hF fun h_65 hF=>?_;refine oV [(0,t0),(6,t1),(7,.int .i64 t7),(8,.int .i64 t8)] ?_;exact gW _ (J62 _ hF)
      |false=>
       refine oU hF fun hF=>?_;refine oZ ?_;exact gW _ (J62 _ hF)
   |false=>
    refine oU hF fun hF=>?_;refine W.exit (by kernel_rfl) ?_;refine e10 (e6 ?_);refine s3 (by kernel_rfl) ?_;exact gW _ (J4 _ hF)
 exact gW _ (L6 _ _ _ hF)
noncomputable def zb4(_:z11)(_:Nat)(t0:AV)(h:AHeap):R:=obind (z34 t0) fun t3=>obind (z20 161 t3) fun t4=>obind (z9 h t4) fun v5=>obind (z17 .i64 v5) fun t5=>lett (IntKind.i64.wrap (t5+1)) fun (t6:Int)=>obind (z34 t0) fun t7=>obind (z20 161 t7) fun t8=>obind (z27 h 1 [.int .i64 t6] t8) fun h_9=>obind (z34 t0) fun t10=>obind (z20 160 t10) fun t11=>obind (z9 h_9 t11) fun v12=>obind (z17 .i64 v12) fun t12=>lett (decide (t12>0)) fun (t13:Bool)=>lett (fun (h_18:AHeap)=>some (.ret (.tup []),h_18)) fun k17=>ifB t13 (obind (z34 t0) fun t15=>obind (z20 160 t15) fun t16=>obind (z9 h_9 t16) fun v17=>obind (z17 .i64 v17) fun t17=>lett (IntKind.i64.wrap (t17 - 1)) fun (t18:Int)=>obind (z34 t0) fun t19=>obind (z20 160 t19) fun t20=>obind (z27 h_9 1 [.int .i64 t18] t20) fun h_26=>k17 h_26) (k17 h_9)
set_option maxHeartbeats 4000000 in
set_option maxRecDepth 20000 in
theorem z268{call:z11}(_:SaysAll Try.prog call){n:Nat}{t0:AV}{h:AHeap}{rR:ARes}{hR:AHeap}(hF:zb4 call n t0 h=some (rR,hR)):Says Try.prog 62 [t0] h rR hR:=by
 unfold zb4 at hF;refine sO Try.func62 fun w0 m0=>?_;refine wW [(0,t0)] ?_;refine oG fun n1=>W.r ?_;refine oA 2 t0 ?_;refine oC0 3 hF fun t3 hF=>?_;refine oF 4 82 2 hF fun t4 hF=>?_;refine oLi 5 3 hF fun t5 hF=>?_;refine oI 6 .i64 hF fun t6 hF=>?_;refine oC0 7 hF fun t7 hF=>?_;refine oF 8 82 2 hF fun t8 hF=>?_;refine oW 3 (.int .i64 t6) hF fun h_9 hF=>?_;refine oV [(0,t0)] (n1 ?_);refine oG fun n11=>W.r ?_;refine oA 9 t0 ?_;refine oC0 10 hF fun t10 hF=>?_;refine oF 11 82 1 hF fun t11 hF=>?_;refine oLi 12 3 hF fun t12 hF=>?_;refine oB 13 hF fun t13 hF=>?_;refine oV [(0,t0),(13,.bool t13)] (n11 ?_);obtain⟨k17,e17,hF⟩:=z7 hF
 have J17:∀(h_18:AHeap),k17 h_18=some (rR,hR)→Go w0 m0 (Func.ntmps Try.f62) (Fin Try.prog Try.f62 w0 m0 rR hR .normal) [] [] h_18:=by
  intro h_18 hF;rw[e17] at hF;exact lY hF [] [] zc
 cases t13 with
 |true=>
  refine oT hF fun hF=>?_;refine W.r ?_;refine oA 14 t0 ?_;refine oC0 15 hF fun t15 hF=>?_;refine oF 16 82 1 hF fun t16 hF=>?_;refine oLi 17 3 hF fun t17 hF=>?_;refine oI 18 .i64 hF fun t18 hF=>?_;refine oC0 19 hF fun t19 hF=>?_;refine oF 20 82 1 hF fun t20 hF=>?_;refine oW 3 (.int .i64 t18) hF fun h_26 hF=>?_;refine oV [] ?_;exact gW _ (J17 _ hF)
 |false=>
  refine oU hF fun hF=>?_;refine oZ ?_;exact gW _ (J17 _ hF)
noncomputable def zed(_:z11)(_:Nat)(t0:Int)(h:AHeap):R:=lett (decide (t0≥0)) fun (t4:Bool)=>lett (fun (t8:Bool) (h_4:AHeap)=>some (.ret (.bool t8),h_4)) fun j8=>ifB t4 (lett (decide (t0<32)) fun (t7:Bool)=>j8 t7 h) (j8 false h)
set_option maxHeartbeats 4000000 in
set_option maxRecDepth 20000 in
theorem z2fe{call:z11}(_:SaysAll Try.prog call){n:Nat}{t0:Int}{h:AHeap}{rR:ARes}{hR:AHeap}(hF:zed call n t0 h=some (rR,hR)):Says Try.prog 51 [.int .i64 t0] h rR hR:=by
 unfold zed at hF;refine sO Try.func51 fun w0 m0=>?_;refine wW [(0,.int .i64 t0)] ?_;refine oG fun n1=>W.r ?_;refine oA 2 (.bool false) ?_;refine oV [(0,.int .i64 t0)] (n1 ?_);refine W.s (fun K2 n2 e2 q2 p2=>?_);refine W.r ?_;refine oA 3 (.int .i64 t0) ?_;refine oB 4 hF fun t4 hF=>?_;refine oA 5 (.bool t4) ?_;obtain⟨j8,e5,hF⟩:=z7 hF
 have J6:∀(t8:Bool) (h_4:AHeap),j8 t8 h_4=some (rR,hR)→WL Try.prog w0 m0 (Func.ntmps Try.f51) (Code.ops (y6 (y4 (z3d Try.f51)))) 6 K2 [(8,.bool t8)] [] h_4:=by
  intro t8 h_4 hF;rw[e5] at hF;refine oA 2 (.bool t8) ?_;refine oV [(2,.bool t8)] (n2 (oY ?_));exact lZ hF [.tmp 2] [.bool t8] (rT zc)
 cases t4 with
 |true=>
  replace hF:=z53 hF
  refine oA 6 (.int .i64 t0) ?_;refine oB 7 hF fun t7 hF=>?_;refine oA 8 (.bool t7) ?_;exact lW _ (J6 _ _ hF)
 |false=>
  replace hF:=z54 hF
  refine WL.o (some 6) ?_;refine WL.o (some 7) ?_;refine oA 8 (.bool false) ?_;exact lW _ (J6 _ _ hF)
noncomputable def zb7(call:z11)(_:Nat)(t0:AV)(t1:Int)(h:AHeap):R:=callN (call 45 [t0,.int .i64 t1] h) fun r10 h_4=>obind (z17 .i64 r10) fun t10=>lett ((t10:Int) != 0) fun (t12:Bool)=>ifB t12 (some (.ret (.tup [ze ([]:zf),.int .i64 t10]),h_4)) (obind (z34 t0) fun t16=>obind (z20 0 t16) fun t17=>obind (z17b 32 5 t17 t1) fun t18=>obind (z20 2 t18) fun t19=>obind (z34 t19) fun t21=>obind (z20 0 t21) fun t22=>obind (z9 h_4 t22) fun v23=>obind (z2f v23) fun t23=>lett (!t23) fun (t24:Bool)=>ifB t24 (some (.ret (.tup [ze ([]:zf),.int .i64 4]),h_4)) (obind (z34 t19) fun t26=>obind (z20 1 t26) fun t27=>obind (z9 h_4 t27) fun v28=>outK (zf3 Try.prog h_4 74 9 (some v28)) fun v29 h_27=>obind (z31 v29) fun t29=>some (.ret (.tup [ze t29,.int .i64 0]),h_27)))
set_option maxHeartbeats 4000000 in
set_option maxRecDepth 20000 in
theorem z26b{call:z11}(hc:SaysAll Try.prog call){n:Nat}{t0:AV}{t1:Int}{h:AHeap}{rR:ARes}{hR:AHeap}(hF:zb7 call n t0 t1 h=some (rR,hR)):Says Try.prog 52 [t0,.int .i64 t1] h rR hR:=by
 unfold zb7 at hF;refine sO Try.func52 fun w0 m0=>?_;refine wW [(0,t0),(1,.int .i64 t1)] ?_;refine oG fun n1=>W.r ?_;refine oA 4 (ze ([]:zf)) ?_;refine oA 5 (.int .i64 0) ?_;refine oV [(0,t0),(1,.int .i64 t1)] (n1 ?_);refine oH fun n2 q2=>?_;refine oG fun n3=>W.r ?_;refine oA 8 t0 ?_;refine oA 9 (.int .i64 t1) ?_;refine oCi hc 10 hF fun t10 h_4 hF=>?_;refine oA 6 (.int .i64 t10) ?_;refine oV [(0,t0),(1,.int .i64 t1),(6,.int .i64 t10)] (n3 ?_);refine oG fun n7=>W.r ?_;refine oA 11 (.int .i64 t10) ?_;refine oB 12 hF fun t12 hF=>?_;refine oV [(0,t0),(1,.int .i64 t1),(6,.int .i64 t10),(12,.bool t12)] (n7 ?_)
 cases t12 with
 |true=>
  refine oT hF fun hF=>?_;refine oG fun n9=>W.r ?_;refine oA 13 (.int .i64 t10) ?_;refine oA 4 (ze ([]:zf)) ?_;refine oA 5 (.int .i64 t10) ?_;refine oV [(4,ze ([]:zf)),(5,.int .i64 t10)] (n9 (oY (q2 ?_)));exact lZ hF [.tmp 4,.tmp 5] [ze ([]:zf),.int .i64 t10] (rT (rT zc))
 |false=>
  refine oU hF fun hF=>?_;refine oZ (n2 ?_);refine oG fun n10=>W.r ?_;refine oA 14 t0 ?_;refine oA 15 (.int .i64 t1) ?_;refine oC0 16 hF fun t16 hF=>?_;refine oF 17 82 0 hF fun t17 hF=>?_;refine oQ 18 80 79 .i64 hF fun t18 hF=>?_;refine oF 19 79 1 hF fun t19 hF=>?_;refine oA 7 t19 ?_;refine oV [(7,t19)] (n10 ?_);refine oH fun n15 q15=>?_;refine oG fun n16=>W.r ?_;refine oA 20 t19 ?_;refine oC0 21 hF fun t21 hF=>?_;refine oF 22 76 0 hF fun t22 hF=>?_;refine oLb 23 4 hF fun t23 hF=>?_;refine oB 24 hF fun t24 hF=>?_;refine oV [(7,t19),(24,.bool t24)] (n16 ?_)
  cases t24 with
  |true=>
   refine oT hF fun hF=>?_;refine oG fun n22=>W.r ?_;refine oA 4 (ze ([]:zf)) ?_;refine oA 5 (.int .i64 4) ?_;refine oV [(4,ze ([]:zf)),(5,.int .i64 4)] (n22 (oY (q15 ?_)));exact lZ hF [.tmp 4,.tmp 5] [ze ([]:zf),.int .i64 4] (rT (rT zc))
  |false=>
   refine oU hF fun hF=>?_;refine oZ (n15 ?_);refine oG fun n23=>W.r ?_;refine oA 25 t19 ?_;refine oC0 26 hF fun t26 hF=>?_;refine oF 27 76 1 hF fun t27 hF=>?_;refine oL 28 74 hF fun v28 hF=>?_
   replace hF:=z26 hF;obtain⟨v29,h_27,e28,hF⟩:=hF
   replace hF:=z4 hF;obtain⟨t29,c29,hF⟩:=hF
   have c29:=z22 c29;subst c29;refine WL.b (some 29) (ze t29) h_27 e28 ?_;refine oA 4 (ze t29) ?_;refine oA 5 (.int .i64 0) ?_;refine oV [(4,ze t29),(5,.int .i64 0)] (n23 (oY ?_));exact lZ hF [.tmp 4,.tmp 5] [ze t29,.int .i64 0] (rT (rT zc))
noncomputable def zb6(call:z11)(_:Nat)(t0:AV)(t1:Int)(h:AHeap):R:=
 outK (z65 Try.prog h .eql 23 true (some t0) (some AV.nilp)) fun v8 h_4=>
 obind (z2f v8) fun t8=>
 lett (fun (t13:Bool) (h_7:AHeap)=>
  ifB t13
  (
   some (.ret (.tup [ze ([]:zf),.bool false]),h_7))
  (
   obind (z34 t0) fun t16=>
   obind (z20 0 t16) fun t17=>
   obind (z17b 32 5 t17 t1) fun t18=>
   obind (z20 0 t18) fun t19=>
   obind (z34 t19) fun t21=>
   obind (z20 1 t21) fun t22=>
   obind (z9 h_7 t22) fun v23=>
   obind (z34 t19) fun t26=>
   obind (z20 0 t26) fun t27=>
   obind (z9 h_7 t27) fun v28=>
   obind (z2f v28) fun t28=>
   outK (zf3 Try.prog h_7 74 9 (some v23)) fun v24 h_24=>
   obind (z31 v24) fun t24=>
   chk (z6e Try.prog h_24 4 t27 (.bool t28)&&(true&&true))<|
   some (.ret (.tup [ze t24,.bool t28]),h_24))) fun j13=>
 ifB t8
 (
  j13 true h_4)
 (
  callN (call 51 [.int .i64 t1] h_4) fun r11 h_28=>
  obind (z2f r11) fun t11=>
  lett (!t11) fun (t12:Bool)=>
  j13 t12 h_28)
set_option maxHeartbeats 4000000 in
set_option maxRecDepth 20000 in
theorem z26a{call:z11}(hc:SaysAll Try.prog call){n:Nat}{t0:AV}{t1:Int}{h:AHeap}{rR:ARes}{hR:AHeap}(hF:zb6 call n t0 t1 h=some (rR,hR)):Says Try.prog 26 [t0,.int .i64 t1] h rR hR:=by
 unfold zb6 at hF;refine sO Try.func26 fun w0 m0=>?_;refine wW [(0,t0),(1,.int .i64 t1)] ?_;refine oG fun n1=>W.r ?_;refine oA 4 (ze ([]:zf)) ?_;refine oA 5 (.bool false) ?_;refine oV [(0,t0),(1,.int .i64 t1)] (n1 ?_);refine oH fun n2 q2=>?_;refine W.s (fun K3 n3 e3 q3 p3=>?_);refine W.r ?_;refine oA 7 t0 ?_
 replace hF:=z26 hF;obtain⟨v8,h_4,e5,hF⟩:=hF
 replace hF:=z4 hF;obtain⟨t8,c6,hF⟩:=hF
 have c6:=z1e c6;subst c6;refine WL.b (some 8) (.bool t8) h_4 e5 ?_;refine oA 9 (.bool t8) ?_;obtain⟨j13,e8,hF⟩:=z7 hF
 have J9:∀(t13:Bool) (h_7:AHeap),j13 t13 h_7=some (rR,hR)→WL Try.prog w0 m0 (Func.ntmps Try.f26) (Code.ops (y6 (y6 (y4 (z3d Try.f26))))) 7 K3 [(0,t0),(1,.int .i64 t1),(13,.bool t13)] [] h_7:=by
  intro t13 h_7 hF;rw[e8] at hF;refine oV [(0,t0),(1,.int .i64 t1),(13,.bool t13)] (n3 ?_)
  cases t13 with
  |true=>
   refine oT hF fun hF=>?_;refine oG fun n10=>W.r ?_;refine oA 4 (ze ([]:zf)) ?_;refine oA 5 (.bool false) ?_;refine oV [(4,ze ([]:zf)),(5,.bool false)] (n10 (oY (q2 ?_)));exact lZ hF [.tmp 4,.tmp 5] [ze ([]:zf),.bool false] (rT (rT zc))
  |false=>
   refine oU hF fun hF=>?_;refine oZ (n2 ?_);refine oG fun n11=>W.r ?_;refine oA 14 t0 ?_;refine oA 15 (.int .i64 t1) ?_;refine oC0 16 hF fun t16 hF=>?_;refine oF 17 82 0 hF fun t17 hF=>?_;refine oQ 18 80 79 .i64 hF fun t18 hF=>?_;refine oF 19 79 0 hF fun t19 hF=>?_;refine oA 6 t19 ?_;refine oV [(6,t19)] (n11 ?_);refine oG fun n16=>?_;refine y12 (by kernel_rfl) (hc.ok w0) (plan:=[0,1,2,3,5,6,7,8,4,9,10]) (by kernel_rfl) (by kernel_rfl) (by kernel_rfl) ?_;refine WD.a 0 (some 20) t19 h_7 ?_;obtain⟨t21,e17,hF⟩:=z4 hF;refine WD.b 0 (some 21) t21 h_7 (z1f (h:=h_7) e17) ?_;obtain⟨t22,e18,hF⟩:=z4 hF;refine WD.b 0 (some 22) t22 h_7 (z10 (P:=Try.prog) (h:=h_7) (s:=76) (f:=1) (by kernel_rfl) e18) ?_;obtain⟨v23,e19,hF⟩:=z4 hF;refine WD.b 1 (some 23) v23 h_7 (z12 (P:=Try.prog) (h:=h_7) (t:=74) (by kernel_rfl) e19) ?_;refine WD.a 0 (some 25) t19 h_7 ?_;obtain⟨t26,e20,hF⟩:=z4 hF;refine WD.b 0 (some 26) t26 h_7 (z1f (h:=h_7) e20) ?_;obtain⟨t27,e21,hF⟩:=z4 hF;refine WD.b 0 (some 27) t27 h_7 (z10 (P:=Try.prog) (h:=h_7) (s:=76) (f:=0) (by kernel_rfl) e21) ?_
   replace hF:=z4 hF;obtain⟨v28,e22,hF⟩:=hF
   replace hF:=z4 hF;obtain⟨t28,c23,hF⟩:=hF
   have c23:=z1e c23;subst c23;refine WD.b 1 (some 28) (.bool t28) h_7 (z12 (P:=Try.prog) (h:=h_7) (t:=4) (by kernel_rfl) e22) ?_
   replace hF:=z26 hF;obtain⟨v24,h_24,e25,hF⟩:=hF
   replace hF:=z4 hF;obtain⟨t24,c26,hF⟩:=hF
   have c26:=z22 c26;subst c26;obtain⟨k27,hF⟩:=z8a hF;refine WD.val (d:=(some 24)) (v:=ze t24) (h':=h_24) (by kernel_rfl) (by kernel_rfl) (Eq.trans (by kernel_rfl) e25) (k:=2) (by kernel_rfl) (fun _=>(Eq.trans (by kernel_rfl) k27)) (by decide) ?_;refine WD.a 0 (some 4) (ze t24) h_24 ?_;refine WD.a 0 (some 5) (.bool t28) h_24 ?_;refine WD.nil ?_;refine gW [(4,ze t24),(5,.bool t28)] (n16 (oY ?_));exact lZ hF [.tmp 4,.tmp 5] [ze t24,.bool t28] (rT (rT zc))
 cases t8 with
 |true=>
  replace hF:=z53 hF
  refine WL.o (some 10) ?_;refine WL.o (some 11) ?_;refine WL.o (some 12) ?_;refine oA 13 (.bool true) ?_;exact lW _ (J9 _ _ hF)
 |false=>
  replace hF:=z54 hF
  refine oA 10 (.int .i64 t1) ?_;refine oCb hc 11 hF fun t11 h_28 hF=>?_;refine oB 12 hF fun t12 hF=>?_;refine oA 13 (.bool t12) ?_;exact lW _ (J9 _ _ hF)
noncomputable def z9d(call:z11)(_:Nat)(t0:AV)(t1:Int)(h:AHeap):R:=outK (z65 Try.prog h .eql 23 true (some t0) (some AV.nilp)) fun v6 h_4=>obind (z2f v6) fun t6=>lett (fun (t11:Bool) (h_7:AHeap)=>ifB t11 (some (.ret (.int .i64 0),h_7)) (obind (z34 t0) fun t14=>obind (z20 0 t14) fun t15=>obind (z17b 32 5 t15 t1) fun t16=>obind (z20 4 t16) fun t17=>obind (z9 h_7 t17) fun v18=>obind (z197 v18) fun t19=>some (.ret (.int .i64 t19),h_7))) fun j11=>ifB t6 (j11 true h_4) (callN (call 51 [.int .i64 t1] h_4) fun r9 h_18=>obind (z2f r9) fun t9=>lett (!t9) fun (t10:Bool)=>j11 t10 h_18)
set_option maxHeartbeats 4000000 in
set_option maxRecDepth 20000 in
theorem z232{call:z11}(hc:SaysAll Try.prog call){n:Nat}{t0:AV}{t1:Int}{h:AHeap}{rR:ARes}{hR:AHeap}(hF:z9d call n t0 t1 h=some (rR,hR)):Says Try.prog 27 [t0,.int .i64 t1] h rR hR:=by
 unfold z9d at hF;refine sO Try.func27 fun w0 m0=>?_;refine wW [(0,t0),(1,.int .i64 t1)] ?_;refine oG fun n1=>W.r ?_;refine oA 4 (.int .i64 0) ?_;refine oV [(0,t0),(1,.int .i64 t1)] (n1 ?_);refine oH fun n2 q2=>?_;refine W.s (fun K3 n3 e3 q3 p3=>?_);refine W.r ?_;refine oA 5 t0 ?_
 replace hF:=z26 hF;obtain⟨v6,h_4,e5,hF⟩:=hF
 replace hF:=z4 hF;obtain⟨t6,c6,hF⟩:=hF
 have c6:=z1e c6;subst c6;refine WL.b (some 6) (.bool t6) h_4 e5 ?_;refine oA 7 (.bool t6) ?_;obtain⟨j11,e8,hF⟩:=z7 hF
 have J9:∀(t11:Bool) (h_7:AHeap),j11 t11 h_7=some (rR,hR)→WL Try.prog w0 m0 (Func.ntmps Try.f27) (Code.ops (y6 (y6 (y4 (z3d Try.f27))))) 7 K3 [(0,t0),(1,.int .i64 t1),(11,.bool t11)] [] h_7:=by
  intro t11 h_7 hF;rw[e8] at hF;refine oV [(0,t0),(1,.int .i64 t1),(11,.bool t11)] (n3 ?_)
  cases t11 with
  |true=>
   refine oT hF fun hF=>?_;refine oG fun n10=>W.r ?_;refine oA 4 (.int .i64 0) ?_;refine oV [(4,.int .i64 0)] (n10 (oY (q2 ?_)));exact lZ hF [.tmp 4] [.int .i64 0] (rT zc)
  |false=>
   refine oU hF fun hF=>?_;refine oZ (n2 ?_);refine oG fun n11=>W.r ?_;refine oA 12 t0 ?_;refine oA 13 (.int .i64 t1) ?_;refine oC0 14 hF fun t14 hF=>?_;refine oF 15 82 0 hF fun t15 hF=>?_;refine oQ 16 80 79 .i64 hF fun t16 hF=>?_;refine oF 17 79 2 hF fun t17 hF=>?_;refine oL 18 77 hF fun v18 hF=>?_;refine oM 19 77 110 hF fun t19 hF=>?_;refine oA 4 (.int .i64 t19) ?_;refine oV [(4,.int .i64 t19)] (n11 (oY ?_));exact lZ hF [.tmp 4] [.int .i64 t19] (rT zc)
 cases t6 with
 |true=>
  replace hF:=z53 hF
  refine WL.o (some 8) ?_;refine WL.o (some 9) ?_;refine WL.o (some 10) ?_;refine oA 11 (.bool true) ?_;exact lW _ (J9 _ _ hF)
 |false=>
  replace hF:=z54 hF
  refine oA 8 (.int .i64 t1) ?_;refine oCb hc 9 hF fun t9 h_18 hF=>?_;refine oB 10 hF fun t10 hF=>?_;refine oA 11 (.bool t10) ?_;exact lW _ (J9 _ _ hF)
noncomputable def z75(call:z11)(t0:AV)(t1:AV)(t2:Int)(k11:AHeap→R)(self:Int→AHeap→R)(t11:Int)(h_20:AHeap):R:=lett (decide (t11<32)) fun (t12:Bool)=>ifB t12 (obind (z197 t1) fun t16=>lett (decide (t11<t16)) fun (t17:Bool)=>lett (fun (t8:Int) (h_33:AHeap)=>obind (z34 t0) fun t24=>obind (z20 0 t24) fun t25=>obind (z17b 32 5 t25 t11) fun t26=>callN (call 40 [t26,.int .i64 t8,.int .i64 t2] h_33) fun _ h_37=>lett (IntKind.i64.wrap (t11+1)) fun (t30:Int)=>self t30 h_37) fun k32=>ifB t17 (obind (z18d 1 t1 t11) fun t20=>obind (z9 h_20 t20) fun v21=>obind (z17 .i64 v21) fun t21=>k32 t21 h_20) (k32 0 h_20)) (k11 h_20)
noncomputable def z89(call:z11)(t0:AV)(t1:AV)(t2:Int)(k11:AHeap→R):Nat→Int→AHeap→R:=z130 (fun _ _=>none) (z75 call t0 t1 t2 k11)
theorem zd6(call:z11)(t0:AV)(t1:AV)(t2:Int)(k11:AHeap→R)(m:Nat):z89 call t0 t1 t2 k11 (m+1)=z75 call t0 t1 t2 k11 (z89 call t0 t1 t2 k11 m):=rfl
noncomputable def z9f(call:z11)(n:Nat)(t0:AV)(t1:AV)(t2:Int)(h:AHeap):R:=outK (z65 Try.prog h .eql 23 true (some t0) (some AV.nilp)) fun v10 h_4=>obind (z2f v10) fun t10=>ifB t10 (some (.ret (.int .i64 1),h_4)) (lett (fun (h_12:AHeap)=>obind (z34 t0) fun t32=>obind (z20 160 t32) fun t33=>obind (z27 h_12 1 [.int .i64 (-1)] t33) fun h_16=>some (.ret (.int .i64 0),h_16)) fun k11=>z89 call t0 t1 t2 k11 n 0 h_4)
set_option maxHeartbeats 4000000 in
set_option maxRecDepth 20000 in
theorem z234{call:z11}(hc:SaysAll Try.prog call){n:Nat}{t0:AV}{t1:AV}{t2:Int}{h:AHeap}{rR:ARes}{hR:AHeap}(hF:z9f call n t0 t1 t2 h=some (rR,hR)):Says Try.prog 15 [t0,t1,.int .i64 t2] h rR hR:=by
 unfold z9f at hF;refine sO Try.func15 fun w0 m0=>?_;refine wW [(0,t0),(1,t1),(2,.int .i64 t2)] ?_;refine oG fun n1=>W.r ?_;refine oA 6 (.int .i64 0) ?_;refine oV [(0,t0),(1,t1),(2,.int .i64 t2)] (n1 ?_);refine oH fun n2 q2=>?_;refine oG fun n3=>W.r ?_;refine oA 9 t0 ?_
 replace hF:=z26 hF;obtain⟨v10,h_4,e5,hF⟩:=hF
 replace hF:=z4 hF;obtain⟨t10,c6,hF⟩:=hF
 have c6:=z1e c6;subst c6;refine WL.b (some 10) (.bool t10) h_4 e5 ?_;refine oV [(0,t0),(1,t1),(2,.int .i64 t2),(10,.bool t10)] (n3 ?_)
 cases t10 with
 |true=>
  refine oT hF fun hF=>?_;refine oG fun n7=>W.r ?_;refine oA 6 (.int .i64 1) ?_;refine oV [(6,.int .i64 1)] (n7 (oY (q2 ?_)));exact lZ hF [.tmp 6] [.int .i64 1] (rT zc)
 |false=>
  refine oU hF fun hF=>?_;refine oZ (n2 ?_);refine W.s (fun K8 n8 e8 q8 p8=>?_);refine oG fun n9=>W.r ?_;refine oA 11 (.int .i64 0) ?_;refine oV [(0,t0),(1,t1),(2,.int .i64 t2),(11,.int .i64 0)] (n9 ?_);obtain⟨k11,e11,hF⟩:=z7 hF
  have J11:∀(h_12:AHeap),k11 h_12=some (rR,hR)→Go w0 m0 (Func.ntmps Try.f15) (K8 .normal) [(0,t0)] [] h_12:=by
   intro h_12 hF;rw[e11] at hF;refine n8 ?_;refine oG fun n13=>W.r ?_;refine oA 31 t0 ?_;refine oC0 32 hF fun t32 hF=>?_;refine oF 33 82 1 hF fun t33 hF=>?_;refine oW 3 (.int .i64 (-1)) hF fun h_16 hF=>?_;refine oV [] (n13 ?_);refine oG fun n18=>W.r ?_;refine oA 6 (.int .i64 0) ?_;refine oV [(6,.int .i64 0)] (n18 (oY ?_));exact lZ hF [.tmp 6] [.int .i64 0] (rT zc)
  refine W.blockK (by kernel_rfl) (fun K10 n10 s10 o10 q10 p10=>?_);refine W.loopK (by kernel_rfl) (fun I19 K19 b19 n19 e19 q19 p19=>?_)
  have L19:∀(m:Nat) (t11:Int) (h_20:AHeap),z89 call t0 t1 t2 k11 m t11 h_20=some (rR,hR)→Go w0 m0 (Func.ntmps Try.f15) I19 [(0,t0),(1,t1),(2,.int .i64 t2),(11,.int .i64 t11)] [] h_20:=by
   intro m
   induction m with
   |zero=>intro t11 h_20 hF;cases hF
   |succ m ih19=>
    intro t11 h_20 hF;rw[zd6] at hF;unfold z75 at hF;refine b19 ?_;refine oG fun n21=>W.r ?_;refine oB 12 hF fun t12 hF=>?_;refine oV [(0,t0),(1,t1),(2,.int .i64 t2),(11,.int .i64 t11),(12,.bool t12)] (n21 ?_);refine W.s (fun K23 n23 e23 q23 p23=>?_)
    cases t12 with
    |true=>
     refine oT hF fun hF=>?_;refine oZ (n23 ?_);refine oG fun n24=>?_;refine W.blockK (by kernel_rfl) (fun K25 n25 s25 o25 q25 p25=>?_);refine oG fun n26=>W.r ?_;refine oA 13 (.int .i64 t11) ?_;refine oA 7 (.int .i64 t11) ?_;refine oV [(0,t0),(1,t1),(2,.int .i64 t2),(7,.int .i64 t11),(11,.int .i64 t11)] (n26 ?_);refine oG fun n27=>W.r ?_;refine oA 8 (.int .i64 0) ?_;refine oV [(0,t0),(1,t1),(2,.int .i64 t2),(7,.int .i64 t11),(8,.int .i64 0),(11,.int .i64 t11)] (n27 ?_);refine W.s (fun K28 n28 e28 q28 p28=>?_);refine oG fun n29=>W.r ?_;refine oA 14 (.int .i64 t11) ?_;refine oA 15 t1 ?_;refine oM 16 32 3 hF fun t16 hF=>?_;refine oB 17 hF fun t17 hF=>?_;refine oV [(0,t0),(1,t1),(2,.int .i64 t2),(7,.int .i64 t11),(8,.int .i64 0),(11,.int .i64 t11),(17,.bool t17)] (n29 ?_);obtain⟨k32,e32,hF⟩:=z7 hF
     have J32:∀(t8:Int) (h_33:AHeap),k32 t8 h_33=some (rR,hR)→Go w0 m0 (Func.ntmps Try.f15) (K28 .normal) [(0,t0),(1,t1),(2,.int .i64 t2),(7,.int .i64 t11),(8,.int .i64 t8),(11,.int .i64 t11)] [] h_33:=by
      intro t8 h_33 hF;rw[e32] at hF;refine n28 (W.r ?_);refine oA 22 t0 ?_;refine oA 23 (.int .i64 t11) ?_;refine oC0 24 hF fun t24 hF=>?_;refine oF 25 82 0 hF fun t25 hF=>?_;refine oQ 26 80 79 .i64 hF fun t26 hF=>?_;refine oA 27 (.int .i64 t8) ?_;refine oA 28 (.int .i64 t2) ?_;refine oC hc (some 29) hF fun r29 h_37 hF=>?_;refine oV [(0,t0),(1,t1),(2,.int .i64 t2),(11,.int .i64 t11)] (n25 (n24 (W.r ?_)));refine oI 30 .i64 hF fun t30 hF=>?_;refine oA 11 (.int .i64 t30) ?_;refine oV [(0,t0),(1,t1),(2,.int .i64 t2),(11,.int .i64 t30)] (n19 ?_);exact gW _ (ih19 _ _ hF)
     cases t17 with
     |true=>
      refine oT hF fun hF=>?_;refine W.r ?_;refine oA 18 t1 ?_;refine oA 19 (.int .i64 t11) ?_;refine oP 20 32 3 .i64 hF fun t20 hF=>?_;refine oLi 21 3 hF fun t21 hF=>?_;refine oA 8 (.int .i64 t21) ?_;refine oV [(0,t0),(1,t1),(2,.int .i64 t2),(7,.int .i64 t11),(8,.int .i64 t21),(11,.int .i64 t11)] ?_;exact gW _ (J32 _ _ hF)
     |false=>
      refine oU hF fun hF=>?_;refine oZ ?_;exact gW _ (J32 _ _ hF)
    |false=>
     refine oU hF fun hF=>?_;refine W.exit (by kernel_rfl) ?_;refine e23 (e19 ?_);refine s10 (by kernel_rfl) ?_;exact gW _ (J11 _ hF)
  exact gW _ (L19 _ _ _ hF)
noncomputable def z9a(call:z11)(_:Nat)(t0:AV)(t1:Int)(t2:Int)(h:AHeap):R:=
 lett (if 0>t1 then 0 else t1) fun (t8:Int)=>
 obind (z34 t0) fun t10=>
 obind (z20 4 t10) fun t11=>
 obind (z9 h t11) fun v12=>
 obind (z197 v12) fun t13=>
 lett (if t13<t8 then t13 else t8) fun (t14:Int)=>
 obind (z34 t0) fun t16=>
 obind (z20 0 t16) fun t17=>
 obind (z34 t0) fun t19=>
 obind (z20 4 t19) fun t20=>
 obind (z9 h t20) fun v21=>
 outK (z10d Try.prog h 77 v21 none (some (.int .i64 t14))) fun v23 h_14=>
 callN (call 61 [t17,v23] h_14) fun _ h_16=>
 obind (z34 t0) fun t27=>
 obind (z20 4 t27) fun t28=>
 obind (z9 h_16 t28) fun v29=>
 obind (z197 v29) fun t30=>
 lett (decide (t14<t30)) fun (t31:Bool)=>
 lett (fun (t35:Bool) (h_25:AHeap)=>
  lett (fun (h_29:AHeap)=>
   obind (z34 t0) fun t69=>
   obind (z20 0 t69) fun t70=>
   callN (call 63 [t70] h_29) fun r71 h_33=>
   obind (z132 r71) fun t71=>
   obind (z34 t0) fun t72=>
   obind (z20 2 t72) fun t73=>
   obind (z27 h_33 2 t71 t73) fun h_38=>
   obind (z34 t0) fun t75=>
   obind (z20 4 t75) fun t76=>
   obind (z27 h_38 1 (AV.cells AV.nsl) t76) fun h_42=>
   some (.ret (.tup []),h_42)) fun k28=>
  ifB t35
  (
   obind (z34 t0) fun t37=>
   obind (z20 4 t37) fun t38=>
   obind (z9 h_25 t38) fun v39=>
   obind (z18d 3 v39 t14) fun t41=>
   obind (z2b h_25 3 t41) fun t42=>
   lett (newH h_25 110 [.int .i64 0,.str 0 0,.int .i64 0]) fun h_50=>
   obind (z27 h_50 3 t42 (z1a h_25)) fun h_52=>
   obind (z9 h_52 (AV.ptr (AHeap.next h_25) 0)) fun v44=>
   obind (z17 .i64 v44) fun t44=>
   lett ((t44:Int) == 0) fun (t45:Bool)=>
   lett (fun (t50:Bool) (h_58:AHeap)=>
    lett (fun (h_62:AHeap)=>
     k28 h_62) fun k61=>
    ifB t50
    (
     obind (z9 h_58 (AV.ptr (AHeap.next h_25) 1)) fun v52=>
     obind (z31 v52) fun t52=>
     obind (z9 h_58 (AV.ptr (AHeap.next h_25) 1)) fun v55=>
     obind (z31 v55) fun t55=>
     lett (IntKind.i64.wrap ((z7e t55) - 1)) fun (t57:Int)=>
     lett (if t57<t2 then t57 else t2) fun (t58:Int)=>
     obind (z5f t52 0 t58) fun t59=>
     obind (z27 h_58 1 [ze t59] (AV.ptr (AHeap.next h_25) 1)) fun h_71=>
     obind (z34 t0) fun t62=>
     obind (z20 0 t62) fun t63=>
     obind (z2b h_71 3 (z1a h_25)) fun t64=>
     outK (z178 Try.prog h_71 77 1 [(0,.agg t64)]) fun v65 h_76=>
     callN (call 61 [t63,v65] h_76) fun _ h_78=>
     k61 h_78)
    (
     k61 h_58)) fun j50=>
   ifB t45
   (
    obind (z9 h_52 (AV.ptr (AHeap.next h_25) 1)) fun v48=>
    obind (z31 v48) fun t48=>
    lett (!eqS t48 ([]:zf)) fun (t49:Bool)=>
    j50 t49 h_52)
   (
    j50 false h_52))
  (
   k28 h_25)) fun j35=>
 ifB t31
 (
  lett (decide (t2>0)) fun (t34:Bool)=>
  j35 t34 h_16)
 (
  j35 false h_16)
set_option maxHeartbeats 4000000 in
set_option maxRecDepth 20000 in
theorem z22f{call:z11}(hc:SaysAll Try.prog call){n:Nat}{t0:AV}{t1:Int}{t2:Int}{h:AHeap}{rR:ARes}{hR:AHeap}(hF:z9a call n t0 t1 t2 h=some (rR,hR)):Says Try.prog 40 [t0,.int .i64 t1,.int .i64 t2] h rR hR:=by
 unfold z9a at hF;refine sO Try.func40 fun w0 m0=>?_;refine wW [(0,t0),(1,.int .i64 t1),(2,.int .i64 t2)] ?_;refine oG fun n1=>W.r ?_;refine oA 7 (.int .i64 t1) ?_;refine oI 8 .i64 hF fun t8 hF=>?_;refine oA 9 t0 ?_;refine oC0 10 hF fun t10 hF=>?_;refine oF 11 79 2 hF fun t11 hF=>?_;refine oL 12 77 hF fun v12 hF=>?_;refine oM 13 77 110 hF fun t13 hF=>?_;refine oI 14 .i64 hF fun t14 hF=>?_;refine oA 1 (.int .i64 t14) ?_;refine oV [(0,t0),(1,.int .i64 t14),(2,.int .i64 t2)] (n1 ?_);refine oG fun n8=>?_;refine y12 (by kernel_rfl) (hc.ok w0) (plan:=[0,1,2,3,4,5,6,7,8,9]) (by kernel_rfl) (by kernel_rfl) (by kernel_rfl) ?_;refine WD.a 0 (some 15) t0 h ?_;obtain⟨t16,e9,hF⟩:=z4 hF;refine WD.b 0 (some 16) t16 h (z1f (h:=h) e9) ?_;obtain⟨t17,e10,hF⟩:=z4 hF;refine WD.b 0 (some 17) t17 h (z10 (P:=Try.prog) (h:=h) (s:=79) (f:=0) (by kernel_rfl) e10) ?_;refine WD.a 0 (some 18) t0 h ?_;obtain⟨t19,e11,hF⟩:=z4 hF;refine WD.b 0 (some 19) t19 h (z1f (h:=h) e11) ?_;obtain⟨t20,e12,hF⟩:=z4 hF;refine WD.b 0 (some 20) t20 h (z10 (P:=Try.prog) (h:=h) (s:=79) (f:=2) (by kernel_rfl) e12) ?_;obtain⟨v21,e13,hF⟩:=z4 hF;refine WD.b 1 (some 21) v21 h (z12 (P:=Try.prog) (h:=h) (t:=77) (by kernel_rfl) e13) ?_;refine WD.a 0 (some 22) (.int .i64 t14) h ?_;obtain⟨v23,h_14,e15,hF⟩:=z26 hF;refine WD.b 0 (some 23) v23 h_14 e15 ?_;obtain⟨r24,h_16,e17,hF⟩:=z18 hF;refine WD.call (d:=(some 24)) (by kernel_rfl) (by kernel_rfl) (by kernel_rfl) e17 (k:=2) (by kernel_rfl) (fun _=>(by kernel_rfl)) (by decide) ?_;refine WD.nil ?_;refine gW [(0,t0),(1,.int .i64 t14),(2,.int .i64 t2)] (n8 ?_);refine W.s (fun K18 n18 e18 q18 p18=>?_);refine W.s (fun K19 n19 e19 q19 p19=>?_);refine W.r ?_;refine oA 25 (.int .i64 t14) ?_;refine oA 26 t0 ?_;refine oC0 27 hF fun t27 hF=>?_;refine oF 28 79 2 hF fun t28 hF=>?_;refine oL 29 77 hF fun v29 hF=>?_;refine oM 30 77 110 hF fun t30 hF=>?_;refine oB 31 hF fun t31 hF=>?_;refine oA 32 (.bool t31) ?_;obtain⟨j35,e26,hF⟩:=z7 hF
 have J27:∀(t35:Bool) (h_25:AHeap),j35 t35 h_25=some (rR,hR)→WL Try.prog w0 m0 (Func.ntmps Try.f40) (Code.ops (y6 (y6 (y4 (y4 (z3d Try.f40)))))) 11 K19 [(0,t0),(1,.int .i64 t14),(2,.int .i64 t2),(35,.bool t35)] [] h_25:=by
  intro t35 h_25 hF;rw[e26] at hF;refine oV [(0,t0),(1,.int .i64 t14),(2,.int .i64 t2),(35,.bool t35)] (n19 ?_);obtain⟨k28,e28,hF⟩:=z7 hF
  have J28:∀(h_29:AHeap),k28 h_29=some (rR,hR)→Go w0 m0 (Func.ntmps Try.f40) (K18 .normal) [(0,t0)] [] h_29:=by
   intro h_29 hF;rw[e28] at hF;refine n18 ?_;refine oG fun n30=>W.r ?_;refine oA 67 t0 ?_;refine oA 68 t0 ?_;refine oC0 69 hF fun t69 hF=>?_;refine oF 70 79 0 hF fun t70 hF=>?_;refine oCa hc 71 hF fun t71 h_33 hF=>?_;refine oC0 72 hF fun t72 hF=>?_;refine oF 73 79 1 hF fun t73 hF=>?_;refine oW 76 (.agg t71) hF fun h_38 hF=>?_;refine oV [(0,t0)] (n30 (W.r ?_));refine oA 74 t0 ?_;refine oC0 75 hF fun t75 hF=>?_;refine oF 76 79 2 hF fun t76 hF=>?_;refine oW 77 AV.nsl hF fun h_42 hF=>?_;refine oV [] ?_;exact lY hF [] [] zc
  cases t35 with
  |true=>
   refine oT hF fun hF=>?_;refine oG fun n44=>W.r ?_;refine oA 36 t0 ?_;refine oC0 37 hF fun t37 hF=>?_;refine oF 38 79 2 hF fun t38 hF=>?_;refine oL 39 77 hF fun v39 hF=>?_;refine oA 40 (.int .i64 t14) ?_;refine oP 41 77 110 .i64 hF fun t41 hF=>?_;refine oR 42 110 hF fun t42 hF=>?_;refine oN 6 hF fun h_50 hF=>?_;refine oW 110 (.agg t42) hF fun h_52 hF=>?_;refine oV [(0,t0),(2,.int .i64 t2),(6,(z1a h_25))] (n44 ?_);refine W.s (fun K54 n54 e54 q54 p54=>?_);refine W.r ?_;refine oA 43 (AV.ptr (AHeap.next h_25) 0) ?_;refine oLi 44 108 hF fun t44 hF=>?_;refine oB 45 hF fun t45 hF=>?_;refine oA 46 (.bool t45) ?_;obtain⟨j50,e59,hF⟩:=z7 hF
   have J60:∀(t50:Bool) (h_58:AHeap),j50 t50 h_58=some (rR,hR)→WL Try.prog w0 m0 (Func.ntmps Try.f40) (Code.ops (y6 (y4 (y6 (y4 (y6 (y4 (y4 (z3d Try.f40))))))))) 8 K54 [(0,t0),(2,.int .i64 t2),(6,(z1a h_25)),(50,.bool t50)] [] h_58:=by
    intro t50 h_58 hF;rw[e59] at hF;refine oV [(0,t0),(2,.int .i64 t2),(6,(z1a h_25)),(50,.bool t50)] (n54 ?_);obtain⟨k61,e61,hF⟩:=z7 hF
    have J61:∀(h_62:AHeap),k61 h_62=some (rR,hR)→Go w0 m0 (Func.ntmps Try.f40) (K18 .normal) [(0,t0)] [] h_62:=by
     intro h_62 hF;rw[e61] at hF;exact gW _ (J28 _ hF)
    cases t50 with
    |true=>
     refine oT hF fun hF=>?_;refine oG fun n63=>W.r ?_;refine oA 51 (AV.ptr (AHeap.next h_25) 1) ?_;refine oLs 52 9 hF fun t52 hF=>?_;refine oA 53 (.int .i64 t2) ?_;refine oA 54 (AV.ptr (AHeap.next h_25) 1) ?_;refine oLs 55 9 hF fun t55 hF=>?_;refine oA 56 (.int .i64 (z7e t55)) ?_;refine oI 57 .i64 hF fun t57 hF=>?_;refine oI 58 .i64 hF fun t58 hF=>?_;obtain⟨t59,e70,hF⟩:=z4 hF;refine WL.b (some 59) (ze t59) h_58 (z61 (P:=Try.prog) (h:=h_58) (t:=9) (A:=none) (B:=(some (.int .i64 t58))) (by kernel_rfl) (.inr ⟨rfl,rfl⟩) (.inl ⟨_,rfl⟩) e70) ?_;refine oA 60 (AV.ptr (AHeap.next h_25) 1) ?_;refine oW 9 (ze t59) hF fun h_71 hF=>?_;refine oV [(0,t0),(6,(z1a h_25))] (n63 ?_);refine y12 (by kernel_rfl) (hc.ok w0) (plan:=[0,1,2,3,4,5]) (by kernel_rfl) (by kernel_rfl) (by kernel_rfl) ?_;refine WD.a 0 (some 61) t0 h_71 ?_;obtain⟨t62,e73,hF⟩:=z4 hF;refine WD.b 0 (some 62) t62 h_71 (z1f (h:=h_71) e73) ?_;obtain⟨t63,e74,hF⟩:=z4 hF;refine WD.b 0 (some 63) t63 h_71 (z10 (P:=Try.prog) (h:=h_71) (s:=79) (f:=0) (by kernel_rfl) e74) ?_;obtain⟨t64,e75,hF⟩:=z4 hF;refine WD.b 1 (some 64) (.agg t64) h_71 (z36 (P:=Try.prog) (h:=h_71) (t:=110) (by kernel_rfl) (by kernel_rfl) e75) ?_;obtain⟨v65,h_76,e77,hF⟩:=z26 hF;refine WD.val (d:=(some 65)) (v:=v65) (h':=h_76) (by kernel_rfl) (by kernel_rfl) (Eq.trans (by kernel_rfl) e77) (k:=2) (by kernel_rfl) (fun _=>(by kernel_rfl)) (by decide) ?_;obtain⟨r66,h_78,e79,hF⟩:=z18 hF;refine WD.call (d:=(some 66)) (by kernel_rfl) (by kernel_rfl) (by kernel_rfl) e79 (k:=2) (by kernel_rfl) (fun _=>(by kernel_rfl)) (by decide) ?_;refine WD.nil ?_;refine gW [(0,t0)] ?_;exact gW _ (J61 _ hF)
    |false=>
     refine oU hF fun hF=>?_;refine oZ ?_;exact gW _ (J61 _ hF)
   cases t45 with
   |true=>
    replace hF:=z53 hF
    refine oA 47 (AV.ptr (AHeap.next h_25) 1) ?_;refine oLs 48 9 hF fun t48 hF=>?_;refine oB 49 hF fun t49 hF=>?_;refine oA 50 (.bool t49) ?_;exact lW _ (J60 _ _ hF)
   |false=>
    replace hF:=z54 hF
    refine WL.o (some 47) ?_;refine WL.o (some 48) ?_;refine WL.o (some 49) ?_;refine oA 50 (.bool false) ?_;exact lW _ (J60 _ _ hF)
  |false=>
   refine oU hF fun hF=>?_;refine oZ ?_;exact gW _ (J28 _ hF)
 cases t31 with
 |true=>
  replace hF:=z53 hF
  refine oA 33 (.int .i64 t2) ?_;refine oB 34 hF fun t34 hF=>?_;refine oA 35 (.bool t34) ?_;exact lW _ (J27 _ _ hF)
 |false=>
  replace hF:=z54 hF
  refine WL.o (some 33) ?_;refine WL.o (some 34) ?_;refine oA 35 (.bool false) ?_;exact lW _ (J27 _ _ hF)
noncomputable def z6b(call:z11)(_:Nat)(t0:AV)(h:AHeap):R:=
 lett (newH h 76 [.bool false,.nsl]) fun h_2=>
 obind (z34 t0) fun t4=>
 obind (z20 0 t4) fun t5=>
 obind (z9 h_2 t5) fun v6=>
 obind (z2f v6) fun t6=>
 obind (z34 t0) fun t8=>
 obind (z20 1 t8) fun t9=>
 obind (z9 h_2 t9) fun v10=>
 callN (call 77 [v10] h_2) fun r11 h_12=>
 chk (true&&(z6e Try.prog h_12 4 t5 (.bool t6)&&true))<|
 obind (z36d Try.prog 76 [(0,.bool t6),(1,r11)]) fun t12=>
 obind (z27 h_12 2 t12 (z1a h)) fun h_16=>
 obind (z2b h_16 2 (z1a h)) fun w2=>
 some (.ret (.agg w2),h_16)
set_option maxHeartbeats 4000000 in
set_option maxRecDepth 20000 in
theorem z1cc{call:z11}(hc:SaysAll Try.prog call){n:Nat}{t0:AV}{h:AHeap}{rR:ARes}{hR:AHeap}(hF:z6b call n t0 h=some (rR,hR)):Says Try.prog 63 [t0] h rR hR:=by
 unfold z6b at hF;refine sO Try.func63 fun w0 m0=>?_;refine wW [(0,t0)] ?_;refine oG fun n1=>W.r ?_;refine oN 2 hF fun h_2 hF=>?_;refine oV [(0,t0),(2,(z1a h))] (n1 ?_);refine oG fun n4=>?_;refine y12 (by kernel_rfl) (hc.ok w0) (plan:=[0,1,2,3,4,5,6,7,8,9,10]) (by kernel_rfl) (by kernel_rfl) (by kernel_rfl) ?_;refine WD.a 0 (some 3) t0 h_2 ?_;obtain⟨t4,e5,hF⟩:=z4 hF;refine WD.b 0 (some 4) t4 h_2 (z1f (h:=h_2) e5) ?_;obtain⟨t5,e6,hF⟩:=z4 hF;refine WD.b 0 (some 5) t5 h_2 (z10 (P:=Try.prog) (h:=h_2) (s:=76) (f:=0) (by kernel_rfl) e6) ?_
 replace hF:=z4 hF;obtain⟨v6,e7,hF⟩:=hF
 replace hF:=z4 hF;obtain⟨t6,c8,hF⟩:=hF
 have c8:=z1e c8;subst c8;refine WD.b 1 (some 6) (.bool t6) h_2 (z12 (P:=Try.prog) (h:=h_2) (t:=4) (by kernel_rfl) e7) ?_;refine WD.a 0 (some 7) t0 h_2 ?_;obtain⟨t8,e9,hF⟩:=z4 hF;refine WD.b 0 (some 8) t8 h_2 (z1f (h:=h_2) e9) ?_;obtain⟨t9,e10,hF⟩:=z4 hF;refine WD.b 0 (some 9) t9 h_2 (z10 (P:=Try.prog) (h:=h_2) (s:=76) (f:=1) (by kernel_rfl) e10) ?_;obtain⟨v10,e11,hF⟩:=z4 hF;refine WD.b 1 (some 10) v10 h_2 (z12 (P:=Try.prog) (h:=h_2) (t:=74) (by kernel_rfl) e11) ?_;obtain⟨r11,h_12,e13,hF⟩:=z18 hF;obtain⟨k14,hF⟩:=z8a hF;refine WD.call (d:=(some 11)) (by kernel_rfl) (by kernel_rfl) (by kernel_rfl) e13 (k:=2) (by kernel_rfl) (fun _=>(Eq.trans (by kernel_rfl) k14)) (by decide) ?_;obtain⟨t12,e15,hF⟩:=z4 hF;refine WD.val (d:=(some 12)) (v:=.agg t12) (h':=h_12) (by kernel_rfl) (by kernel_rfl) (z1ac (by kernel_rfl) e15) (k:=0) (by kernel_rfl) (fun e=>absurd e (by decide)) (by decide) ?_;obtain⟨h_16,e17,hF⟩:=z4 hF;refine WD.eff (h':=h_16) (by kernel_rfl) (by kernel_rfl) (Eq.trans (by kernel_rfl) (z2c (P:=Try.prog) (h:=h_12) (t:=76) (v:=(.agg t12)) (by kernel_rfl) (by kernel_rfl) e17)) (k:=2) (by kernel_rfl) (fun _=>(by kernel_rfl)) (by decide) ?_;refine WD.nil ?_;refine gW [(2,(z1a h))] (n4 (oY ?_));obtain⟨w2,e18,hF⟩:=z4 hF;exact lZ hF [.cell 2 76] [.agg w2] (rY e18 zc)
noncomputable def z39(_:z11)(_:Nat)(t0:AV)(h:AHeap):R:=outK (z65 Try.prog h .eql 74 true (some t0) (some AV.nsl)) fun v4 h_4=>obind (z2f v4) fun t4=>ifB t4 (some (.ret (AV.nsl),h_4)) (outK (z178 Try.prog h_4 74 0 []) fun v5 h_9=>outK (z41 Try.prog h_9 74 74 v5 t0) fun v7 h_11=>some (.ret (v7),h_11))
set_option maxHeartbeats 4000000 in
set_option maxRecDepth 20000 in
theorem z137{call:z11}(_:SaysAll Try.prog call){n:Nat}{t0:AV}{h:AHeap}{rR:ARes}{hR:AHeap}(hF:z39 call n t0 h=some (rR,hR)):Says Try.prog 77 [t0] h rR hR:=by
 unfold z39 at hF;refine sO Try.func77 fun w0 m0=>?_;refine wW [(0,t0)] ?_;refine oG fun n1=>W.r ?_;refine oA 2 AV.nsl ?_;refine oV [(0,t0)] (n1 ?_);refine oH fun n2 q2=>?_;refine oG fun n3=>W.r ?_;refine oA 3 t0 ?_
 replace hF:=z26 hF;obtain⟨v4,h_4,e5,hF⟩:=hF
 replace hF:=z4 hF;obtain⟨t4,c6,hF⟩:=hF
 have c6:=z1e c6;subst c6;refine WL.b (some 4) (.bool t4) h_4 e5 ?_;refine oV [(0,t0),(4,.bool t4)] (n3 ?_)
 cases t4 with
 |true=>
  refine oT hF fun hF=>?_;refine oG fun n7=>W.r ?_;refine oA 2 AV.nsl ?_;refine oV [(2,AV.nsl)] (n7 (oY (q2 ?_)));exact lZ hF [.tmp 2] [AV.nsl] (rT zc)
 |false=>
  refine oU hF fun hF=>?_;refine oZ (n2 ?_);refine oG fun n8=>W.r ?_;refine oK 5 hF fun v5 h_9 hF=>?_;refine oA 6 t0 ?_;refine oK 7 hF fun v7 h_11 hF=>?_;refine oA 2 v7 ?_;refine oV [(2,v7)] (n8 (oY ?_));exact lZ hF [.tmp 2] [v7] (rT zc)
noncomputable def z74(t0:AV)(k12:AV→AHeap→R)(self:AV→Int→AHeap→R)(t3_16:AV)(t7:Int)(h_17:AHeap):R:=lett (decide (t7<32)) fun (t8:Bool)=>ifB t8 (obind (z34 t0) fun t12=>obind (z20 0 t12) fun t13=>obind (z17b 32 5 t13 t7) fun t14=>obind (z20 2 t14) fun t15=>obind (z20 0 t15) fun t16=>obind (z9 h_17 t16) fun v17=>obind (z2f v17) fun t17=>lett (fun (t3_33:AV) (h_34:AHeap)=>lett (IntKind.i64.wrap (t7+1)) fun (t22:Int)=>self t3_33 t22 h_34) fun k32=>ifB t17 (outK (z178 Try.prog h_17 32 1 [(0,.int .i64 t7)]) fun v20 h_36=>outK (z41 Try.prog h_36 32 32 t3_16 v20) fun v21 h_38=>k32 v21 h_38) (k32 t3_16 h_17)) (k12 t3_16 h_17)
noncomputable def z88(t0:AV)(k12:AV→AHeap→R):Nat→AV→Int→AHeap→R:=z130 (fun _ _ _=>none) (z74 t0 k12)
theorem zd5(t0:AV)(k12:AV→AHeap→R)(m:Nat):z88 t0 k12 (m+1)=z74 t0 k12 (z88 t0 k12 m):=rfl
noncomputable def z9e(_:z11)(n:Nat)(t0:AV)(h:AHeap):R:=outK (z65 Try.prog h .eql 23 true (some t0) (some AV.nilp)) fun v6 h_4=>obind (z2f v6) fun t6=>ifB t6 (some (.ret (AV.nsl),h_4)) (lett (fun (t3:AV) (h_13:AHeap)=>some (.ret (t3),h_13)) fun k12=>z88 t0 k12 n AV.nsl 0 h_4)
set_option maxHeartbeats 4000000 in
set_option maxRecDepth 20000 in
theorem z233{call:z11}(_:SaysAll Try.prog call){n:Nat}{t0:AV}{h:AHeap}{rR:ARes}{hR:AHeap}(hF:z9e call n t0 h=some (rR,hR)):Says Try.prog 12 [t0] h rR hR:=by
 unfold z9e at hF;refine sO Try.func12 fun w0 m0=>?_;refine wW [(0,t0)] ?_;refine oG fun n1=>W.r ?_;refine oA 2 AV.nsl ?_;refine oV [(0,t0)] (n1 ?_);refine oH fun n2 q2=>?_;refine oG fun n3=>W.r ?_;refine oA 5 t0 ?_
 replace hF:=z26 hF;obtain⟨v6,h_4,e5,hF⟩:=hF
 replace hF:=z4 hF;obtain⟨t6,c6,hF⟩:=hF
 have c6:=z1e c6;subst c6;refine WL.b (some 6) (.bool t6) h_4 e5 ?_;refine oV [(0,t0),(6,.bool t6)] (n3 ?_)
 cases t6 with
 |true=>
  refine oT hF fun hF=>?_;refine oG fun n7=>W.r ?_;refine oA 2 AV.nsl ?_;refine oV [(2,AV.nsl)] (n7 (oY (q2 ?_)));exact lZ hF [.tmp 2] [AV.nsl] (rT zc)
 |false=>
  refine oU hF fun hF=>?_;refine oZ (n2 ?_);refine oG fun n8=>W.r ?_;refine oA 3 AV.nsl ?_;refine oV [(0,t0),(3,AV.nsl)] (n8 ?_);refine W.s (fun K9 n9 e9 q9 p9=>?_);refine oG fun n10=>W.r ?_;refine oA 7 (.int .i64 0) ?_;refine oV [(0,t0),(3,AV.nsl),(7,.int .i64 0)] (n10 ?_);obtain⟨k12,e12,hF⟩:=z7 hF
  have J12:∀(t3:AV) (h_13:AHeap),k12 t3 h_13=some (rR,hR)→Go w0 m0 (Func.ntmps Try.f12) (K9 .normal) [(3,t3)] [] h_13:=by
   intro t3 h_13 hF;rw[e12] at hF;refine n9 ?_;refine oG fun n14=>W.r ?_;refine oA 23 t3 ?_;refine oA 2 t3 ?_;refine oV [(2,t3)] (n14 (oY ?_));exact lZ hF [.tmp 2] [t3] (rT zc)
  refine W.blockK (by kernel_rfl) (fun K11 n11 s11 o11 q11 p11=>?_);refine W.loopK (by kernel_rfl) (fun I15 K15 b15 n15 e15 q15 p15=>?_)
  have L15:∀(m:Nat) (t3_16:AV) (t7:Int) (h_17:AHeap),z88 t0 k12 m t3_16 t7 h_17=some (rR,hR)→Go w0 m0 (Func.ntmps Try.f12) I15 [(0,t0),(3,t3_16),(7,.int .i64 t7)] [] h_17:=by
   intro m
   induction m with
   |zero=>intro t3_16 t7 h_17 hF;cases hF
   |succ m ih15=>
    intro t3_16 t7 h_17 hF;rw[zd5] at hF;unfold z74 at hF;refine b15 ?_;refine oG fun n18=>W.r ?_;refine oB 8 hF fun t8 hF=>?_;refine oV [(0,t0),(3,t3_16),(7,.int .i64 t7),(8,.bool t8)] (n18 ?_);refine W.s (fun K20 n20 e20 q20 p20=>?_)
    cases t8 with
    |true=>
     refine oT hF fun hF=>?_;refine oZ (n20 ?_);refine oG fun n21=>?_;refine W.blockK (by kernel_rfl) (fun K22 n22 s22 o22 q22 p22=>?_);refine oG fun n23=>W.r ?_;refine oA 9 (.int .i64 t7) ?_;refine oA 4 (.int .i64 t7) ?_;refine oV [(0,t0),(3,t3_16),(4,.int .i64 t7),(7,.int .i64 t7)] (n23 ?_);refine oG fun n24=>W.r ?_;refine oA 10 t0 ?_;refine oA 11 (.int .i64 t7) ?_;refine oC0 12 hF fun t12 hF=>?_;refine oF 13 82 0 hF fun t13 hF=>?_;refine oQ 14 80 79 .i64 hF fun t14 hF=>?_;refine oF 15 79 1 hF fun t15 hF=>?_;refine oF 16 76 0 hF fun t16 hF=>?_;refine oLb 17 4 hF fun t17 hF=>?_;refine oV [(0,t0),(3,t3_16),(4,.int .i64 t7),(7,.int .i64 t7),(17,.bool t17)] (n24 ?_);obtain⟨k32,e32,hF⟩:=z7 hF
     have J32:∀(t3_33:AV) (h_34:AHeap),k32 t3_33 h_34=some (rR,hR)→Go w0 m0 (Func.ntmps Try.f12) (K22 .normal) [(0,t0),(3,t3_33),(7,.int .i64 t7)] [] h_34:=by
      intro t3_33 h_34 hF;rw[e32] at hF;refine n22 (n21 (W.r ?_));refine oI 22 .i64 hF fun t22 hF=>?_;refine oA 7 (.int .i64 t22) ?_;refine oV [(0,t0),(3,t3_33),(7,.int .i64 t22)] (n15 ?_);exact gW _ (ih15 _ _ _ hF)
     cases t17 with
     |true=>
      refine oT hF fun hF=>?_;refine W.r ?_;refine oA 18 t3_16 ?_;refine oA 19 (.int .i64 t7) ?_;refine oK 20 hF fun v20 h_36 hF=>?_;refine oK 21 hF fun v21 h_38 hF=>?_;refine oA 3 v21 ?_;refine oV [(0,t0),(3,v21),(7,.int .i64 t7)] ?_;exact gW _ (J32 _ _ hF)
     |false=>
      refine oU hF fun hF=>?_;refine oZ ?_;exact gW _ (J32 _ _ hF)
    |false=>
     refine oU hF fun hF=>?_;refine W.exit (by kernel_rfl) ?_;refine e20 (e15 ?_);refine s11 (by kernel_rfl) ?_;exact gW _ (J12 _ _ hF)
  exact gW _ (L15 _ _ _ _ hF)
noncomputable def z127(t1:zf)(h:AHeap)(k13:Int→AHeap→R)(self:Int→Int→AHeap→R)(t6_18:Int)(t13:Int)(h_19:AHeap):R:=lett (decide (t13<(z7e t1))) fun (t14:Bool)=>ifB t14 (obind (z352 t1 t13) fun t19=>lett (IntKind.u32.wrap t19) fun (t20:Int)=>lett (xorI .u32 t6_18 t20) fun (t21:Int)=>obind (shrI .u32 t21 4) fun t23=>obind (z498 .u32 t21 16) fun t25=>obind (z17b 16 1 (z1a h) t25) fun t26=>obind (z9 h_19 t26) fun v27=>obind (z17 .u32 v27) fun t27=>lett (xorI .u32 t23 t27) fun (t28:Int)=>obind (shrI .u32 t28 4) fun t30=>obind (z498 .u32 t28 16) fun t32=>obind (z17b 16 1 (z1a h) t32) fun t33=>obind (z9 h_19 t33) fun v34=>obind (z17 .u32 v34) fun t34=>lett (xorI .u32 t30 t34) fun (t35:Int)=>lett (IntKind.i64.wrap (t13+1)) fun (t36:Int)=>self t35 t36 h_19) (k13 t6_18 h_19)
noncomputable def z14c(t1:zf)(h:AHeap)(k13:Int→AHeap→R):Nat→Int→Int→AHeap→R:=z130 (fun _ _ _=>none) (z127 t1 h k13)
theorem z17d(t1:zf)(h:AHeap)(k13:Int→AHeap→R)(m:Nat):z14c t1 h k13 (m+1)=z127 t1 h k13 (z14c t1 h k13 m):=rfl
noncomputable def z1b3(_:z11)(n:Nat)(t0:Int)(t1:zf)(h:AHeap):R:=obind (z36d Try.prog 160 [(0,.int .u32 0),(1,.int .u32 274646895),(2,.int .u32 549293790),(3,.int .u32 820201905),(4,.int .u32 1098587580),(5,.int .u32 1361435347),(6,.int .u32 1640403810),(7,.int .u32 1905808397),(8,.int .u32 2197175160),(9,.int .u32 2460548119),(10,.int .u32 2722870694),(11,.int .u32 2987750089),(12,.int .u32 3280807620),(13,.int .u32 3553878443),(14,.int .u32 3811616794),(15,.int .u32 4084100981)]) fun t8=>lett (newH h 160 [.int .u32 0,.int .u32 0,.int .u32 0,.int .u32 0,.int .u32 0,.int .u32 0,.int .u32 0,.int .u32 0,.int .u32 0,.int .u32 0,.int .u32 0,.int .u32 0,.int .u32 0,.int .u32 0,.int .u32 0,.int .u32 0]) fun h_4=>obind (z27 h_4 16 t8 (z1a h)) fun h_6=>lett (comI .u32 t0) fun (t10:Int)=>lett (fun (t6:Int) (h_14:AHeap)=>lett (comI .u32 t6) fun (t38:Int)=>some (.ret (.int .u32 t38),h_14)) fun k13=>z14c t1 h k13 n t10 0 h_6
set_option maxHeartbeats 4000000 in
set_option maxRecDepth 20000 in
theorem z3d7{call:z11}(_:SaysAll Try.prog call){n:Nat}{t0:Int}{t1:zf}{h:AHeap}{rR:ARes}{hR:AHeap}(hF:z1b3 call n t0 t1 h=some (rR,hR)):Says Try.prog 87 [.int .u32 t0,ze t1] h rR hR:=by
 unfold z1b3 at hF;refine sO Try.func87 fun w0 m0=>?_;refine wW [(0,.int .u32 t0),(1,ze t1)] ?_;refine oG fun n1=>W.r ?_;refine oA 4 (.int .u32 0) ?_;refine oV [(0,.int .u32 t0),(1,ze t1)] (n1 ?_);refine oG fun n2=>W.r ?_;obtain⟨t8,e3,hF⟩:=z4 hF;refine WL.val (d:=(some 8)) (v:=.agg t8) (h':=h) (by kernel_rfl) (by kernel_rfl) (z1ac (by kernel_rfl) e3) ?_;refine oN 5 hF fun h_4 hF=>?_;refine oW 160 (.agg t8) hF fun h_6 hF=>?_;refine oV [(0,.int .u32 t0),(1,ze t1),(5,(z1a h))] (n2 ?_);refine oG fun n8=>W.r ?_;refine oA 9 (.int .u32 t0) ?_;refine oI 10 .u32 hF fun t10 hF=>?_;refine oA 6 (.int .u32 t10) ?_;refine oV [(1,ze t1),(5,(z1a h)),(6,.int .u32 t10)] (n8 ?_);refine W.s (fun K10 n10 e10 q10 p10=>?_);refine oG fun n11=>W.r ?_;refine oA 11 (ze t1) ?_;refine oA 12 (.int .i64 (z7e t1)) ?_;refine oA 13 (.int .i64 0) ?_;refine oV [(1,ze t1),(5,(z1a h)),(6,.int .u32 t10),(12,.int .i64 (z7e t1)),(13,.int .i64 0)] (n11 ?_);obtain⟨k13,e13,hF⟩:=z7 hF
 have J13:∀(t6:Int) (h_14:AHeap),k13 t6 h_14=some (rR,hR)→Go w0 m0 (Func.ntmps Try.f87) (K10 .normal) [(6,.int .u32 t6)] [] h_14:=by
  intro t6 h_14 hF;rw[e13] at hF;refine n10 ?_;refine oG fun n15=>W.r ?_;refine oA 37 (.int .u32 t6) ?_;refine oI 38 .u32 hF fun t38 hF=>?_;refine oA 4 (.int .u32 t38) ?_;refine oV [(4,.int .u32 t38)] (n15 (oY ?_));exact lZ hF [.tmp 4] [.int .u32 t38] (rT zc)
 refine W.blockK (by kernel_rfl) (fun K12 n12 s12 o12 q12 p12=>?_);refine W.loopK (by kernel_rfl) (fun I17 K17 b17 n17 e17 q17 p17=>?_)
 have L17:∀(m:Nat) (t6_18:Int) (t13:Int) (h_19:AHeap),z14c t1 h k13 m t6_18 t13 h_19=some (rR,hR)→Go w0 m0 (Func.ntmps Try.f87) I17 [(1,ze t1),(5,(z1a h)),(6,.int .u32 t6_18),(12,.int .i64 (z7e t1)),(13,.int .i64 t13)] [] h_19:=by
  intro m
  induction m with
  |zero=>intro t6_18 t13 h_19 hF;cases hF
  |succ m ih17=>
   intro t6_18 t13 h_19 hF;rw[z17d] at hF;unfold z127 at hF;refine b17 ?_;refine oG fun n20=>W.r ?_;refine oB 14 hF fun t14 hF=>?_;refine oV [(1,ze t1),(5,(z1a h)),(6,.int .u32 t6_18),(12,.int .i64 (z7e t1)),(13,.int .i64 t13),(14,.bool t14)] (n20 ?_);refine W.s (fun K22 n22 e22 q22 p22=>?_)
   cases t14 with
   |true=>
    refine oT hF fun hF=>?_;refine oZ (n22 ?_);refine oG fun n23=>?_;refine W.blockK (by kernel_rfl) (fun K24 n24 s24 o24 q24 p24=>?_);refine oG fun n25=>W.r ?_;refine oA 15 (.int .i64 t13) ?_;refine oA 7 (.int .i64 t13) ?_;refine oV [(1,ze t1),(5,(z1a h)),(6,.int .u32 t6_18),(7,.int .i64 t13),(12,.int .i64 (z7e t1)),(13,.int .i64 t13)] (n25 ?_);refine oG fun n26=>W.r ?_;refine oA 16 (.int .u32 t6_18) ?_;refine oA 17 (ze t1) ?_;refine oA 18 (.int .i64 t13) ?_;refine oX 19 9 .i64 hF fun t19 hF=>?_;refine oI 20 .u32 hF fun t20 hF=>?_;refine oI 21 .u32 hF fun t21 hF=>?_;refine oA 6 (.int .u32 t21) ?_;refine oV [(1,ze t1),(5,(z1a h)),(6,.int .u32 t21),(12,.int .i64 (z7e t1)),(13,.int .i64 t13)] (n26 ?_);refine oG fun n30=>W.r ?_;refine oA 22 (.int .u32 t21) ?_;obtain⟨t23,e31,hF⟩:=z4 hF;refine WL.b (some 23) (.int .u32 t23) h_19 (z3d9 (P:=Try.prog) (h:=h_19) (t:=148) (k':=.u64) (lit:=true) e31) ?_;refine oA 24 (.int .u32 t21) ?_;obtain⟨t25,e32,hF⟩:=z4 hF;refine WL.b (some 25) (.int .u32 t25) h_19 (z2b2 (P:=Try.prog) (h:=h_19) (t:=148) (lit:=true) e32) ?_;refine oQ 26 160 148 .u32 hF fun t26 hF=>?_;refine oLi 27 148 hF fun t27 hF=>?_;refine oI 28 .u32 hF fun t28 hF=>?_;refine oA 6 (.int .u32 t28) ?_;refine oV [(1,ze t1),(5,(z1a h)),(6,.int .u32 t28),(12,.int .i64 (z7e t1)),(13,.int .i64 t13)] (n30 (W.r ?_));refine oA 29 (.int .u32 t28) ?_;obtain⟨t30,e37,hF⟩:=z4 hF;refine WL.b (some 30) (.int .u32 t30) h_19 (z3d9 (P:=Try.prog) (h:=h_19) (t:=148) (k':=.u64) (lit:=true) e37) ?_;refine oA 31 (.int .u32 t28) ?_;obtain⟨t32,e38,hF⟩:=z4 hF;refine WL.b (some 32) (.int .u32 t32) h_19 (z2b2 (P:=Try.prog) (h:=h_19) (t:=148) (lit:=true) e38) ?_;refine oQ 33 160 148 .u32 hF fun t33 hF=>?_;refine oLi 34 148 hF fun t34 hF=>?_;refine oI 35 .u32 hF fun t35 hF=>?_;refine oA 6 (.int .u32 t35) ?_;refine oV [(1,ze t1),(5,(z1a h)),(6,.int .u32 t35),(12,.int .i64 (z7e t1)),(13,.int .i64 t13)] (n24 (n23 (W.r ?_)));refine oI 36 .i64 hF fun t36 hF=>?_;refine oA 13 (.int .i64 t36) ?_;refine oV [(1,ze t1),(5,(z1a h)),(6,.int .u32 t35),(12,.int .i64 (z7e t1)),(13,.int .i64 t36)] (n17 ?_);exact gW _ (ih17 _ _ _ hF)
   |false=>
    refine oU hF fun hF=>?_;refine W.exit (by kernel_rfl) ?_;refine e22 (e17 ?_);refine s12 (by kernel_rfl) ?_;exact gW _ (J13 _ _ hF)
 exact gW _ (L17 _ _ _ _ hF)
noncomputable def z304(call:z11)(_:Nat)(t0:zf)(h:AHeap):R:=callN (call 87 [.int .u32 0,ze t0] h) fun r4 h_3=>obind (z17 .u32 r4) fun t4=>some (.ret (.int .u32 t4),h_3)
set_option maxHeartbeats 4000000 in
set_option maxRecDepth 20000 in
theorem z486{call:z11}(hc:SaysAll Try.prog call){n:Nat}{t0:zf}{h:AHeap}{rR:ARes}{hR:AHeap}(hF:z304 call n t0 h=some (rR,hR)):Says Try.prog 84 [ze t0] h rR hR:=by
 unfold z304 at hF;refine sO Try.func84 fun w0 m0=>?_;refine wW [(0,ze t0)] ?_;refine oG fun n1=>W.r ?_;refine oA 2 (.int .u32 0) ?_;refine oV [(0,ze t0)] (n1 ?_);refine oG fun n2=>W.r ?_;refine oA 3 (ze t0) ?_;refine oCi hc 4 hF fun t4 h_3 hF=>?_;refine oA 2 (.int .u32 t4) ?_;refine oV [(2,.int .u32 t4)] (n2 (oY ?_));exact lZ hF [.tmp 2] [.int .u32 t4] (rT zc)
noncomputable def zf5(call:z11)(_:Nat)(t0:zf)(h:AHeap):R:=callN (call 84 [ze t0] h) fun r5 h_3=>obind (z17 .u32 r5) fun t5=>callN (call 75 [.int .u32 t5] h_3) fun r6 h_6=>obind (z31 r6) fun t6=>obind (z43f t0 t6) fun t7=>some (.ret (ze t7),h_6)
set_option maxHeartbeats 4000000 in
set_option maxRecDepth 20000 in
theorem z2c7{call:z11}(hc:SaysAll Try.prog call){n:Nat}{t0:zf}{h:AHeap}{rR:ARes}{hR:AHeap}(hF:zf5 call n t0 h=some (rR,hR)):Says Try.prog 74 [ze t0] h rR hR:=by
 unfold zf5 at hF;refine sO Try.func74 fun w0 m0=>?_;refine wW [(0,ze t0)] ?_;refine oG fun n1=>W.r ?_;refine oA 2 (ze ([]:zf)) ?_;refine oV [(0,ze t0)] (n1 ?_);refine oG fun n2=>W.r ?_;refine oA 3 (ze t0) ?_;refine oA 4 (ze t0) ?_;refine oCi hc 5 hF fun t5 h_3 hF=>?_;refine oCs hc 6 hF fun t6 h_6 hF=>?_;obtain⟨t7,e9,hF⟩:=z4 hF;refine WL.b (some 7) (ze t7) h_6 (z16b (P:=Try.prog) (h:=h_6) (t:=9) (lit:=false) e9) ?_;refine oA 2 (ze t7) ?_;refine oV [(2,ze t7)] (n2 (oY ?_));exact lZ hF [.tmp 2] [ze t7] (rT zc)
noncomputable def z118(call:z11)(_:Nat)(t0:zf)(h:AHeap):R:=lett (IntKind.i64.wrap ((z7e t0) - 4)) fun (t6:Int)=>obind (z5f t0 t6 (z7e t0)) fun t9=>obind (z5f t0 0 t6) fun t14=>callN (call 70 [ze t9] h) fun r10 h_7=>callN (call 79 [r10] h_7) fun r11 h_9=>obind (z17 .u32 r11) fun t11=>callN (call 84 [ze t14] h_9) fun r15 h_12=>obind (z17 .u32 r15) fun t15=>lett ((t11:Int) == t15) fun (t16:Bool)=>some (.ret (.bool t16),h_12)
set_option maxHeartbeats 4000000 in
set_option maxRecDepth 20000 in
theorem z2fb{call:z11}(hc:SaysAll Try.prog call){n:Nat}{t0:zf}{h:AHeap}{rR:ARes}{hR:AHeap}(hF:z118 call n t0 h=some (rR,hR)):Says Try.prog 80 [ze t0] h rR hR:=by
 unfold z118 at hF;refine sO Try.func80 fun w0 m0=>?_;refine wW [(0,ze t0)] ?_;refine oG fun n1=>W.r ?_;refine oA 2 (.bool false) ?_;refine oV [(0,ze t0)] (n1 ?_);refine oG fun n2=>W.r ?_;refine oA 4 (ze t0) ?_;refine oA 5 (.int .i64 (z7e t0)) ?_;refine oI 6 .i64 hF fun t6 hF=>?_;refine oA 3 (.int .i64 t6) ?_;refine oV [(0,ze t0),(3,.int .i64 t6)] (n2 ?_);refine oG fun n4=>?_;refine y12 (by kernel_rfl) (hc.ok w0) (plan:=[0,1,2,5,6,7,3,4,8,9,10]) (by kernel_rfl) (by kernel_rfl) (by kernel_rfl) ?_;refine WD.a 0 (some 7) (ze t0) h ?_;refine WD.a 0 (some 8) (.int .i64 t6) h ?_;obtain⟨t9,e5,hF⟩:=z4 hF;refine WD.b 0 (some 9) (ze t9) h (z61 (P:=Try.prog) (h:=h) (t:=9) (A:=(some (.int .i64 t6))) (B:=none) (by kernel_rfl) (.inl ⟨_,rfl⟩) (.inr ⟨rfl,rfl⟩) e5) ?_;refine WD.a 0 (some 12) (ze t0) h ?_;refine WD.a 0 (some 13) (.int .i64 t6) h ?_;obtain⟨t14,e6,hF⟩:=z4 hF;refine WD.b 0 (some 14) (ze t14) h (z61 (P:=Try.prog) (h:=h) (t:=9) (A:=none) (B:=(some (.int .i64 t6))) (by kernel_rfl) (.inr ⟨rfl,rfl⟩) (.inl ⟨_,rfl⟩) e6) ?_;obtain⟨r10,h_7,e8,hF⟩:=z18 hF;refine WD.call (d:=(some 10)) (by kernel_rfl) (by kernel_rfl) (by kernel_rfl) e8 (k:=2) (by kernel_rfl) (fun _=>(by kernel_rfl)) (by decide) ?_
 replace hF:=z18 hF;obtain⟨r11,h_9,e10,hF⟩:=hF
 replace hF:=z4 hF;obtain⟨t11,c11,hF⟩:=hF
 have c11:=z15 c11;subst c11;refine WD.call (d:=(some 11)) (by kernel_rfl) (by kernel_rfl) (by kernel_rfl) e10 (k:=2) (by kernel_rfl) (fun _=>(by kernel_rfl)) (by decide) ?_
 replace hF:=z18 hF;obtain⟨r15,h_12,e13,hF⟩:=hF
 replace hF:=z4 hF;obtain⟨t15,c14,hF⟩:=hF
 have c14:=z15 c14;subst c14;refine WD.call (d:=(some 15)) (by kernel_rfl) (by kernel_rfl) (by kernel_rfl) e13 (k:=2) (by kernel_rfl) (fun _=>(by kernel_rfl)) (by decide) ?_;obtain⟨t16,e15,hF⟩:=z7 hF;refine WD.val (d:=(some 16)) (v:=.bool t16) (h':=h_12) (by kernel_rfl) (by kernel_rfl) (z2a AV.bool e15 (by kernel_rfl)) (k:=0) (by kernel_rfl) (fun e=>absurd e (by decide)) (by decide) ?_;refine WD.a 0 (some 2) (.bool t16) h_12 ?_;refine WD.nil ?_;refine gW [(2,.bool t16)] (n4 (oY ?_));exact lZ hF [.tmp 2] [.bool t16] (rT zc)
noncomputable def z175(call:z11)(_:Nat)(t0:zf)(h:AHeap):R:=lett (decide ((z7e t0)>4096)) fun (t6:Bool)=>ifB t6 (some (.ret (.tup [ze ([]:zf),.int .i64 3]),h)) (lett (IntKind.u32.wrap (z7e t0)) fun (t9:Int)=>callN (call 75 [.int .u32 t9] h) fun r10 h_8=>obind (z31 r10) fun t10=>callN (call 74 [ze t10] h_8) fun r11 h_11=>obind (z31 r11) fun t11=>callN (call 74 [ze t0] h_11) fun r13 h_14=>obind (z31 r13) fun t13=>obind (z43f t11 t13) fun t14=>some (.ret (.tup [ze t14,.int .i64 0]),h_14))
set_option maxHeartbeats 4000000 in
set_option maxRecDepth 20000 in
theorem z3b2{call:z11}(hc:SaysAll Try.prog call){n:Nat}{t0:zf}{h:AHeap}{rR:ARes}{hR:AHeap}(hF:z175 call n t0 h=some (rR,hR)):Says Try.prog 57 [ze t0] h rR hR:=by
 unfold z175 at hF;refine sO Try.func57 fun w0 m0=>?_;refine wW [(0,ze t0)] ?_;refine oG fun n1=>W.r ?_;refine oA 2 (ze ([]:zf)) ?_;refine oA 3 (.int .i64 0) ?_;refine oV [(0,ze t0)] (n1 ?_);refine oH fun n2 q2=>?_;refine oG fun n3=>W.r ?_;refine oA 4 (ze t0) ?_;refine oA 5 (.int .i64 (z7e t0)) ?_;refine oB 6 hF fun t6 hF=>?_;refine oV [(0,ze t0),(6,.bool t6)] (n3 ?_)
 cases t6 with
 |true=>
  refine oT hF fun hF=>?_;refine oG fun n5=>W.r ?_;refine oA 2 (ze ([]:zf)) ?_;refine oA 3 (.int .i64 3) ?_;refine oV [(2,ze ([]:zf)),(3,.int .i64 3)] (n5 (oY (q2 ?_)));exact lZ hF [.tmp 2,.tmp 3] [ze ([]:zf),.int .i64 3] (rT (rT zc))
 |false=>
  refine oU hF fun hF=>?_;refine oZ (n2 ?_);refine oG fun n6=>W.r ?_;refine oA 7 (ze t0) ?_;refine oA 8 (.int .i64 (z7e t0)) ?_;refine oI 9 .u32 hF fun t9 hF=>?_;refine oCs hc 10 hF fun t10 h_8 hF=>?_;refine oCs hc 11 hF fun t11 h_11 hF=>?_;refine oA 12 (ze t0) ?_;refine oCs hc 13 hF fun t13 h_14 hF=>?_;obtain⟨t14,e17,hF⟩:=z4 hF;refine WL.b (some 14) (ze t14) h_14 (z16b (P:=Try.prog) (h:=h_14) (t:=9) (lit:=false) e17) ?_;refine oA 2 (ze t14) ?_;refine oA 3 (.int .i64 0) ?_;refine oV [(2,ze t14),(3,.int .i64 0)] (n6 (oY ?_));exact lZ hF [.tmp 2,.tmp 3] [ze t14,.int .i64 0] (rT (rT zc))
noncomputable def z146(call:z11)(_:Nat)(t0:zf)(h:AHeap):R:=lett (decide ((z7e t0)<8)) fun (t9:Bool)=>ifB t9 (some (.ret (.tup [ze ([]:zf),.int .i64 0,.int .i64 30]),h)) (callN (call 70 [ze t0] h) fun r11 h_7=>callN (call 79 [r11] h_7) fun r12 h_9=>obind (z17 .u32 r12) fun t12=>lett (decide (t12>4096)) fun (t14:Bool)=>lett (fun (t20:Bool) (h_15:AHeap)=>ifB t20 (some (.ret (.tup [ze ([]:zf),.int .i64 0,.int .i64 7]),h_15)) (lett (IntKind.i64.wrap t12) fun (t22:Int)=>lett (IntKind.i64.wrap (8+t22)) fun (t23:Int)=>lett (IntKind.i64.wrap (t23+4)) fun (t24:Int)=>lett (decide ((z7e t0)<t24)) fun (t28:Bool)=>ifB t28 (some (.ret (.tup [ze ([]:zf),.int .i64 0,.int .i64 30]),h_15)) (obind (z5f t0 8 t24) fun t31=>callN (call 80 [ze t31] h_15) fun r32 h_30=>obind (z2f r32) fun t32=>lett (!t32) fun (t33:Bool)=>ifB t33 (some (.ret (.tup [ze ([]:zf),.int .i64 0,.int .i64 7]),h_30)) (lett (IntKind.i64.wrap (t24 - 4)) fun (t36:Int)=>obind (z5f t0 8 t36) fun t37=>some (.ret (.tup [ze t37,.int .i64 t24,.int .i64 0]),h_30))))) fun j20=>ifB t14 (j20 true h_9) (obind (z5f t0 0 8) fun t17=>callN (call 80 [ze t17] h_9) fun r18 h_39=>obind (z2f r18) fun t18=>lett (!t18) fun (t19:Bool)=>j20 t19 h_39))
set_option maxHeartbeats 4000000 in
set_option maxRecDepth 20000 in
theorem z359{call:z11}(hc:SaysAll Try.prog call){n:Nat}{t0:zf}{h:AHeap}{rR:ARes}{hR:AHeap}(hF:z146 call n t0 h=some (rR,hR)):Says Try.prog 69 [ze t0] h rR hR:=by
 unfold z146 at hF;refine sO Try.func69 fun w0 m0=>?_;refine wW [(0,ze t0)] ?_;refine oG fun n1=>W.r ?_;refine oA 2 (ze ([]:zf)) ?_;refine oA 3 (.int .i64 0) ?_;refine oA 4 (.int .i64 0) ?_;refine oV [(0,ze t0)] (n1 ?_);refine oH fun n2 q2=>?_;refine oG fun n3=>W.r ?_;refine oA 7 (ze t0) ?_;refine oA 8 (.int .i64 (z7e t0)) ?_;refine oB 9 hF fun t9 hF=>?_;refine oV [(0,ze t0),(9,.bool t9)] (n3 ?_)
 cases t9 with
 |true=>
  refine oT hF fun hF=>?_;refine oG fun n5=>W.r ?_;refine oA 2 (ze ([]:zf)) ?_;refine oA 3 (.int .i64 0) ?_;refine oA 4 (.int .i64 30) ?_;refine oV [(2,ze ([]:zf)),(3,.int .i64 0),(4,.int .i64 30)] (n5 (oY (q2 ?_)));exact lZ hF [.tmp 2,.tmp 3,.tmp 4] [ze ([]:zf),.int .i64 0,.int .i64 30] (rT (rT (rT zc)))
 |false=>
  refine oU hF fun hF=>?_;refine oZ (n2 ?_);refine oG fun n6=>W.r ?_;refine oA 10 (ze t0) ?_;refine oC hc (some 11) hF fun r11 h_7 hF=>?_;refine oCi hc 12 hF fun t12 h_9 hF=>?_;refine oA 5 (.int .u32 t12) ?_;refine oV [(0,ze t0),(5,.int .u32 t12)] (n6 ?_);refine oH fun n12 q12=>?_;refine W.s (fun K13 n13 e13 q13 p13=>?_);refine W.r ?_;refine oA 13 (.int .u32 t12) ?_;refine oB 14 hF fun t14 hF=>?_;refine oA 15 (.bool t14) ?_;obtain⟨j20,e16,hF⟩:=z7 hF
  have J17:∀(t20:Bool) (h_15:AHeap),j20 t20 h_15=some (rR,hR)→WL Try.prog w0 m0 (Func.ntmps Try.f69) (Code.ops (y6 (y6 (y4 (y4 (y4 (z3d Try.f69))))))) 8 K13 [(0,ze t0),(5,.int .u32 t12),(20,.bool t20)] [] h_15:=by
   intro t20 h_15 hF;rw[e16] at hF;refine oV [(0,ze t0),(5,.int .u32 t12),(20,.bool t20)] (n13 ?_)
   cases t20 with
   |true=>
    refine oT hF fun hF=>?_;refine oG fun n18=>W.r ?_;refine oA 2 (ze ([]:zf)) ?_;refine oA 3 (.int .i64 0) ?_;refine oA 4 (.int .i64 7) ?_;refine oV [(2,ze ([]:zf)),(3,.int .i64 0),(4,.int .i64 7)] (n18 (oY (q12 ?_)));exact lZ hF [.tmp 2,.tmp 3,.tmp 4] [ze ([]:zf),.int .i64 0,.int .i64 7] (rT (rT (rT zc)))
   |false=>
    refine oU hF fun hF=>?_;refine oZ (n12 ?_);refine oG fun n19=>W.r ?_;refine oA 21 (.int .u32 t12) ?_;refine oI 22 .i64 hF fun t22 hF=>?_;refine oI 23 .i64 hF fun t23 hF=>?_;refine oI 24 .i64 hF fun t24 hF=>?_;refine oA 6 (.int .i64 t24) ?_;refine oV [(0,ze t0),(6,.int .i64 t24)] (n19 ?_);refine oH fun n23 q23=>?_;refine oG fun n24=>W.r ?_;refine oA 25 (ze t0) ?_;refine oA 26 (.int .i64 (z7e t0)) ?_;refine oA 27 (.int .i64 t24) ?_;refine oB 28 hF fun t28 hF=>?_;refine oV [(0,ze t0),(6,.int .i64 t24),(28,.bool t28)] (n24 ?_)
    cases t28 with
    |true=>
     refine oT hF fun hF=>?_;refine oG fun n26=>W.r ?_;refine oA 2 (ze ([]:zf)) ?_;refine oA 3 (.int .i64 0) ?_;refine oA 4 (.int .i64 30) ?_;refine oV [(2,ze ([]:zf)),(3,.int .i64 0),(4,.int .i64 30)] (n26 (oY (q23 ?_)));exact lZ hF [.tmp 2,.tmp 3,.tmp 4] [ze ([]:zf),.int .i64 0,.int .i64 30] (rT (rT (rT zc)))
    |false=>
     refine oU hF fun hF=>?_;refine oZ (n23 ?_);refine oH fun n27 q27=>?_;refine oG fun n28=>W.r ?_;refine oA 29 (ze t0) ?_;refine oA 30 (.int .i64 t24) ?_;obtain⟨t31,e29,hF⟩:=z4 hF;refine WL.b (some 31) (ze t31) h_15 (z61 (P:=Try.prog) (h:=h_15) (t:=9) (A:=(some (.int .i64 8))) (B:=(some (.int .i64 t24))) (by kernel_rfl) (.inl ⟨_,rfl⟩) (.inl ⟨_,rfl⟩) e29) ?_;refine oCb hc 32 hF fun t32 h_30 hF=>?_;refine oB 33 hF fun t33 hF=>?_;refine oV [(0,ze t0),(6,.int .i64 t24),(33,.bool t33)] (n28 ?_)
     cases t33 with
     |true=>
      refine oT hF fun hF=>?_;refine oG fun n34=>W.r ?_;refine oA 2 (ze ([]:zf)) ?_;refine oA 3 (.int .i64 0) ?_;refine oA 4 (.int .i64 7) ?_;refine oV [(2,ze ([]:zf)),(3,.int .i64 0),(4,.int .i64 7)] (n34 (oY (q27 ?_)));exact lZ hF [.tmp 2,.tmp 3,.tmp 4] [ze ([]:zf),.int .i64 0,.int .i64 7] (rT (rT (rT zc)))
     |false=>
      refine oU hF fun hF=>?_;refine oZ (n27 ?_);refine oG fun n35=>W.r ?_;refine oA 34 (ze t0) ?_;refine oA 35 (.int .i64 t24) ?_;refine oI 36 .i64 hF fun t36 hF=>?_;obtain⟨t37,e37,hF⟩:=z4 hF;refine WL.b (some 37) (ze t37) h_30 (z61 (P:=Try.prog) (h:=h_30) (t:=9) (A:=(some (.int .i64 8))) (B:=(some (.int .i64 t36))) (by kernel_rfl) (.inl ⟨_,rfl⟩) (.inl ⟨_,rfl⟩) e37) ?_;refine oA 38 (.int .i64 t24) ?_;refine oA 2 (ze t37) ?_;refine oA 3 (.int .i64 t24) ?_;refine oA 4 (.int .i64 0) ?_;refine oV [(2,ze t37),(3,.int .i64 t24),(4,.int .i64 0)] (n35 (oY ?_));exact lZ hF [.tmp 2,.tmp 3,.tmp 4] [ze t37,.int .i64 t24,.int .i64 0] (rT (rT (rT zc)))
  cases t14 with
  |true=>
   replace hF:=z53 hF
   refine WL.o (some 16) ?_;refine WL.o (some 17) ?_;refine WL.o (some 18) ?_;refine WL.o (some 19) ?_;refine oA 20 (.bool true) ?_;exact lW _ (J17 _ _ hF)
  |false=>
   replace hF:=z54 hF
   refine oA 16 (ze t0) ?_;obtain⟨t17,e38,hF⟩:=z4 hF;refine WL.b (some 17) (ze t17) h_9 (z61 (P:=Try.prog) (h:=h_9) (t:=9) (A:=none) (B:=(some (.int .i64 8))) (by kernel_rfl) (.inr ⟨rfl,rfl⟩) (.inl ⟨_,rfl⟩) e38) ?_;refine oCb hc 18 hF fun t18 h_39 hF=>?_;refine oB 19 hF fun t19 hF=>?_;refine oA 20 (.bool t19) ?_;exact lW _ (J17 _ _ hF)
noncomputable def z176(_:z11)(_:Nat)(t0:zf)(h:AHeap):R:=lett (newH h 9 [ze t0]) fun h_2=>some (.ret (AV.fn 68 [] [(z1a h)]),h_2)
set_option maxHeartbeats 4000000 in
set_option maxRecDepth 20000 in
theorem z3b3{call:z11}(_:SaysAll Try.prog call){n:Nat}{t0:zf}{h:AHeap}{rR:ARes}{hR:AHeap}(hF:z176 call n t0 h=some (rR,hR)):Says Try.prog 53 [ze t0] h rR hR:=by
 unfold z176 at hF;refine sO Try.func53 fun w0 m0=>?_;refine wW [(0,ze t0)] ?_;refine oG fun n1=>W.r ?_;refine oN 1 hF fun h_2 hF=>?_;refine oA 2 AV.nfn ?_;refine oV [(1,(z1a h))] (n1 ?_);refine oG fun n4=>W.r ?_;refine oA 3 (AV.fn 68 [] [(z1a h)]) ?_;refine oA 2 (AV.fn 68 [] [(z1a h)]) ?_;refine oV [(2,(AV.fn 68 [] [(z1a h)]))] (n4 (oY ?_));exact lZ hF [.tmp 2] [(AV.fn 68 [] [(z1a h)])] (rT zc)
noncomputable def z1b1(call:z11)(_:Nat)(t0:Int)(h:AHeap):R:=lett (IntKind.u64.wrap t0) fun (t4:Int)=>callN (call 76 [.int .u64 t4,.int .i64 4] h) fun r5 h_4=>obind (z31 r5) fun t5=>some (.ret (ze t5),h_4)
set_option maxHeartbeats 4000000 in
set_option maxRecDepth 20000 in
theorem z3ce{call:z11}(hc:SaysAll Try.prog call){n:Nat}{t0:Int}{h:AHeap}{rR:ARes}{hR:AHeap}(hF:z1b1 call n t0 h=some (rR,hR)):Says Try.prog 75 [.int .u32 t0] h rR hR:=by
 unfold z1b1 at hF;refine sO Try.func75 fun w0 m0=>?_;refine wW [(0,.int .u32 t0)] ?_;refine oG fun n1=>W.r ?_;refine oA 2 (ze ([]:zf)) ?_;refine oV [(0,.int .u32 t0)] (n1 ?_);refine oG fun n2=>W.r ?_;refine oA 3 (.int .u32 t0) ?_;refine oI 4 .u64 hF fun t4 hF=>?_;refine oCs hc 5 hF fun t5 h_4 hF=>?_;refine oA 2 (ze t5) ?_;refine oV [(2,ze t5)] (n2 (oY ?_));exact lZ hF [.tmp 2] [ze t5] (rT zc)
noncomputable def z1b0(call:z11)(_:Nat)(t0:Int)(h:AHeap):R:=callN (call 76 [.int .u64 t0,.int .i64 8] h) fun r4 h_3=>obind (z31 r4) fun t4=>some (.ret (ze t4),h_3)
set_option maxHeartbeats 4000000 in
set_option maxRecDepth 20000 in
theorem z3cd{call:z11}(hc:SaysAll Try.prog call){n:Nat}{t0:Int}{h:AHeap}{rR:ARes}{hR:AHeap}(hF:z1b0 call n t0 h=some (rR,hR)):Says Try.prog 58 [.int .u64 t0] h rR hR:=by
 unfold z1b0 at hF;refine sO Try.func58 fun w0 m0=>?_;refine wW [(0,.int .u64 t0)] ?_;refine oG fun n1=>W.r ?_;refine oA 2 (ze ([]:zf)) ?_;refine oV [(0,.int .u64 t0)] (n1 ?_);refine oG fun n2=>W.r ?_;refine oA 3 (.int .u64 t0) ?_;refine oCs hc 4 hF fun t4 h_3 hF=>?_;refine oA 2 (ze t4) ?_;refine oV [(2,ze t4)] (n2 (oY ?_));exact lZ hF [.tmp 2] [ze t4] (rT zc)
noncomputable def z240(call:z11)(_:Nat)(t0:Int)(h:AHeap):R:=lett (IntKind.u64.wrap t0) fun (t4:Int)=>callN (call 76 [.int .u64 t4,.int .i64 1] h) fun r5 h_4=>obind (z31 r5) fun t5=>some (.ret (ze t5),h_4)
set_option maxHeartbeats 4000000 in
set_option maxRecDepth 20000 in
theorem z443{call:z11}(hc:SaysAll Try.prog call){n:Nat}{t0:Int}{h:AHeap}{rR:ARes}{hR:AHeap}(hF:z240 call n t0 h=some (rR,hR)):Says Try.prog 59 [.int .u8 t0] h rR hR:=by
 unfold z240 at hF;refine sO Try.func59 fun w0 m0=>?_;refine wW [(0,.int .u8 t0)] ?_;refine oG fun n1=>W.r ?_;refine oA 2 (ze ([]:zf)) ?_;refine oV [(0,.int .u8 t0)] (n1 ?_);refine oG fun n2=>W.r ?_;refine oA 3 (.int .u8 t0) ?_;refine oI 4 .u64 hF fun t4 hF=>?_;refine oCs hc 5 hF fun t5 h_4 hF=>?_;refine oA 2 (ze t5) ?_;refine oV [(2,ze t5)] (n2 (oY ?_));exact lZ hF [.tmp 2] [ze t5] (rT zc)
noncomputable def z1b2(_:z11)(_:Nat)(t0:zf)(h:AHeap):R:=outK (zba h 154 (some (.agg ([ze t0,.int .i64 0,.int .i64 0,.int .i64 0]:List AV)))) fun v5 h_3=>some (.ret (v5),h_3)
set_option maxHeartbeats 4000000 in
set_option maxRecDepth 20000 in
theorem z3cf{call:z11}(_:SaysAll Try.prog call){n:Nat}{t0:zf}{h:AHeap}{rR:ARes}{hR:AHeap}(hF:z1b2 call n t0 h=some (rR,hR)):Says Try.prog 70 [ze t0] h rR hR:=by
 unfold z1b2 at hF;refine sO Try.func70 fun w0 m0=>?_;refine wW [(0,ze t0)] ?_;refine oG fun n1=>W.r ?_;refine oA 2 AV.nilp ?_;refine oV [(0,ze t0)] (n1 ?_);refine oG fun n2=>W.r ?_;refine oA 3 (ze t0) ?_;refine oA 4 (.agg ([ze t0,.int .i64 0,.int .i64 0,.int .i64 0]:List AV)) ?_;refine oK 5 hF fun v5 h_3 hF=>?_;refine oA 2 v5 ?_;refine oV [(2,v5)] (n2 (oY ?_));exact lZ hF [.tmp 2] [v5] (rT zc)
noncomputable def zc0(v8:AV)(k9:AHeap→R)(self:Int→Int→AHeap→R)(t0_16:Int)(t6:Int)(h_17:AHeap):R:=lett (decide (t6≥0)) fun (t12:Bool)=>ifB t12 (lett (IntKind.u8.wrap t0_16) fun (t18:Int)=>obind (z18d 1 v8 t6) fun t19=>obind (z27 h_17 1 [.int .u8 t18] t19) fun h_26=>obind (shrI .u64 t0_16 8) fun t21=>lett (IntKind.i64.wrap (t6 - 1)) fun (t14:Int)=>self t21 t14 h_26) (k9 h_17)
noncomputable def zad(v8:AV)(k9:AHeap→R):Nat→Int→Int→AHeap→R:=z130 (fun _ _ _=>none) (zc0 v8 k9)
theorem z12b(v8:AV)(k9:AHeap→R)(m:Nat):zad v8 k9 (m+1)=zc0 v8 k9 (zad v8 k9 m):=rfl
noncomputable def z10f(_:z11)(n:Nat)(t0:Int)(t1:Int)(h:AHeap):R:=outK (z116 Try.prog h 74 (some (.int .i64 t1)) (some (.int .i64 t1))) fun v8 h_3=>lett (IntKind.i64.wrap (t1 - 1)) fun (t10:Int)=>lett (fun (h_10:AHeap)=>outK (zf3 Try.prog h_10 74 9 (some v8)) fun v23 h_12=>obind (z31 v23) fun t23=>some (.ret (ze t23),h_12)) fun k9=>zad v8 k9 n t0 t10 h_3
set_option maxHeartbeats 4000000 in
set_option maxRecDepth 20000 in
theorem z2e7{call:z11}(_:SaysAll Try.prog call){n:Nat}{t0:Int}{t1:Int}{h:AHeap}{rR:ARes}{hR:AHeap}(hF:z10f call n t0 t1 h=some (rR,hR)):Says Try.prog 76 [.int .u64 t0,.int .i64 t1] h rR hR:=by
 unfold z10f at hF;refine sO Try.func76 fun w0 m0=>?_;refine wW [(0,.int .u64 t0),(1,.int .i64 t1)] ?_;refine oG fun n1=>W.r ?_;refine oA 4 (ze ([]:zf)) ?_;refine oV [(0,.int .u64 t0),(1,.int .i64 t1)] (n1 ?_);refine oG fun n2=>W.r ?_;refine oA 7 (.int .i64 t1) ?_;refine oK 8 hF fun v8 h_3 hF=>?_;refine oA 5 v8 ?_;refine oV [(0,.int .u64 t0),(1,.int .i64 t1),(5,v8)] (n2 ?_);refine W.s (fun K5 n5 e5 q5 p5=>?_);refine oG fun n6=>W.r ?_;refine oA 9 (.int .i64 t1) ?_;refine oI 10 .i64 hF fun t10 hF=>?_;refine oA 6 (.int .i64 t10) ?_;refine oV [(0,.int .u64 t0),(5,v8),(6,.int .i64 t10)] (n6 ?_);obtain⟨k9,e9,hF⟩:=z7 hF
 have J9:∀(h_10:AHeap),k9 h_10=some (rR,hR)→Go w0 m0 (Func.ntmps Try.f76) (K5 .normal) [(5,v8)] [] h_10:=by
  intro h_10 hF;rw[e9] at hF;refine n5 ?_;refine oG fun n11=>W.r ?_;refine oA 22 v8 ?_
  replace hF:=z26 hF;obtain⟨v23,h_12,e13,hF⟩:=hF
  replace hF:=z4 hF;obtain⟨t23,c14,hF⟩:=hF
  have c14:=z22 c14;subst c14;refine WL.b (some 23) (ze t23) h_12 e13 ?_;refine oA 4 (ze t23) ?_;refine oV [(4,ze t23)] (n11 (oY ?_));exact lZ hF [.tmp 4] [ze t23] (rT zc)
 refine W.blockK (by kernel_rfl) (fun K8 n8 s8 o8 q8 p8=>?_);refine W.loopK (by kernel_rfl) (fun I15 K15 b15 n15 e15 q15 p15=>?_)
 have L15:∀(m:Nat) (t0_16:Int) (t6:Int) (h_17:AHeap),zad v8 k9 m t0_16 t6 h_17=some (rR,hR)→Go w0 m0 (Func.ntmps Try.f76) I15 [(0,.int .u64 t0_16),(5,v8),(6,.int .i64 t6)] [] h_17:=by
  intro m
  induction m with
  |zero=>intro t0_16 t6 h_17 hF;cases hF
  |succ m ih15=>
   intro t0_16 t6 h_17 hF;rw[z12b] at hF;unfold zc0 at hF;refine b15 ?_;refine W.s (fun K18 n18 e18 q18 p18=>?_);refine oG fun n19=>W.r ?_;refine oA 11 (.int .i64 t6) ?_;refine oB 12 hF fun t12 hF=>?_;refine oV [(0,.int .u64 t0_16),(5,v8),(6,.int .i64 t6),(12,.bool t12)] (n19 ?_)
   cases t12 with
   |true=>
    refine oT hF fun hF=>?_;refine oZ (n18 ?_);refine oG fun n21=>?_;refine W.blockK (by kernel_rfl) (fun K22 n22 s22 o22 q22 p22=>?_);refine oG fun n23=>W.r ?_;refine oA 15 v8 ?_;refine oA 16 (.int .i64 t6) ?_;refine oA 17 (.int .u64 t0_16) ?_;refine oI 18 .u8 hF fun t18 hF=>?_;refine oP 19 74 5 .i64 hF fun t19 hF=>?_;refine oW 5 (.int .u8 t18) hF fun h_26 hF=>?_;refine oV [(0,.int .u64 t0_16),(5,v8),(6,.int .i64 t6)] (n23 (W.r ?_));refine oA 20 (.int .u64 t0_16) ?_;obtain⟨t21,e28,hF⟩:=z4 hF;refine WL.b (some 21) (.int .u64 t21) h_26 (z3d9 (P:=Try.prog) (h:=h_26) (t:=64) (k':=.u64) (lit:=true) e28) ?_;refine oA 0 (.int .u64 t21) ?_;refine oV [(0,.int .u64 t21),(5,v8),(6,.int .i64 t6)] (n22 (n21 (W.r ?_)));refine oA 13 (.int .i64 t6) ?_;refine oI 14 .i64 hF fun t14 hF=>?_;refine oA 6 (.int .i64 t14) ?_;refine oV [(0,.int .u64 t21),(5,v8),(6,.int .i64 t14)] (n15 ?_);exact gW _ (ih15 _ _ _ hF)
   |false=>
    refine oU hF fun hF=>?_;refine W.exit (by kernel_rfl) ?_;refine e18 (e15 ?_);refine s8 (by kernel_rfl) ?_;exact gW _ (J9 _ hF)
 exact gW _ (L15 _ _ _ _ hF)
noncomputable def z90(call:z11)(_:Nat)(t0:AV)(h:AHeap):R:=callN (call 81 [t0,.int .i64 4] h) fun r4 h_3=>obind (z17 .u64 r4) fun t4=>lett (IntKind.u32.wrap t4) fun (t5:Int)=>some (.ret (.int .u32 t5),h_3)
set_option maxHeartbeats 4000000 in
set_option maxRecDepth 20000 in
theorem z1fe{call:z11}(hc:SaysAll Try.prog call){n:Nat}{t0:AV}{h:AHeap}{rR:ARes}{hR:AHeap}(hF:z90 call n t0 h=some (rR,hR)):Says Try.prog 79 [t0] h rR hR:=by
 unfold z90 at hF;refine sO Try.func79 fun w0 m0=>?_;refine wW [(0,t0)] ?_;refine oG fun n1=>W.r ?_;refine oA 2 (.int .u32 0) ?_;refine oV [(0,t0)] (n1 ?_);refine oG fun n2=>W.r ?_;refine oA 3 t0 ?_;refine oCi hc 4 hF fun t4 h_3 hF=>?_;refine oI 5 .u32 hF fun t5 hF=>?_;refine oA 2 (.int .u32 t5) ?_;refine oV [(2,.int .u32 t5)] (n2 (oY ?_));exact lZ hF [.tmp 2] [.int .u32 t5] (rT zc)
noncomputable def z8f(call:z11)(_:Nat)(t0:AV)(h:AHeap):R:=callN (call 81 [t0,.int .i64 8] h) fun r4 h_3=>obind (z17 .u64 r4) fun t4=>some (.ret (.int .u64 t4),h_3)
set_option maxHeartbeats 4000000 in
set_option maxRecDepth 20000 in
theorem z1fd{call:z11}(hc:SaysAll Try.prog call){n:Nat}{t0:AV}{h:AHeap}{rR:ARes}{hR:AHeap}(hF:z8f call n t0 h=some (rR,hR)):Says Try.prog 71 [t0] h rR hR:=by
 unfold z8f at hF;refine sO Try.func71 fun w0 m0=>?_;refine wW [(0,t0)] ?_;refine oG fun n1=>W.r ?_;refine oA 2 (.int .u64 0) ?_;refine oV [(0,t0)] (n1 ?_);refine oG fun n2=>W.r ?_;refine oA 3 t0 ?_;refine oCi hc 4 hF fun t4 h_3 hF=>?_;refine oA 2 (.int .u64 t4) ?_;refine oV [(2,.int .u64 t4)] (n2 (oY ?_));exact lZ hF [.tmp 2] [.int .u64 t4] (rT zc)
noncomputable def zae(call:z11)(_:Nat)(t0:AV)(h:AHeap):R:=callN (call 81 [t0,.int .i64 1] h) fun r4 h_3=>obind (z17 .u64 r4) fun t4=>lett (IntKind.u8.wrap t4) fun (t5:Int)=>some (.ret (.int .u8 t5),h_3)
set_option maxHeartbeats 4000000 in
set_option maxRecDepth 20000 in
theorem z241{call:z11}(hc:SaysAll Try.prog call){n:Nat}{t0:AV}{h:AHeap}{rR:ARes}{hR:AHeap}(hF:zae call n t0 h=some (rR,hR)):Says Try.prog 72 [t0] h rR hR:=by
 unfold zae at hF;refine sO Try.func72 fun w0 m0=>?_;refine wW [(0,t0)] ?_;refine oG fun n1=>W.r ?_;refine oA 2 (.int .u8 0) ?_;refine oV [(0,t0)] (n1 ?_);refine oG fun n2=>W.r ?_;refine oA 3 t0 ?_;refine oCi hc 4 hF fun t4 h_3 hF=>?_;refine oI 5 .u8 hF fun t5 hF=>?_;refine oA 2 (.int .u8 t5) ?_;refine oV [(2,.int .u8 t5)] (n2 (oY ?_));exact lZ hF [.tmp 2] [.int .u8 t5] (rT zc)
noncomputable def z91(call:z11)(_:Nat)(t0:AV)(h:AHeap):R:=lett (newH h 145 [.int .i64 0,.int .i64 0]) fun h_2=>lett (fun (t16:Bool) (h_7:AHeap)=>ifB t16 (obind (z34 t0) fun t18=>obind (z20 1 t18) fun t19=>obind (z9 h_7 t19) fun v20=>obind (z17 .i64 v20) fun t20=>obind (z27 h_7 2 ([.int .i64 7,.int .i64 t20]:List AV) (z1a h)) fun h_13=>obind (z2b h_13 2 (z1a h)) fun w2=>some (.ret (.agg w2),h_13)) (callN (call 83 [t0] h_7) fun r23 h_17=>obind (z132 r23) fun t23=>obind (z27 h_17 2 t23 (z1a h)) fun h_20=>obind (z2b h_20 2 (z1a h)) fun w2_23=>some (.ret (.agg w2_23),h_20))) fun k6=>callN (call 82 [t0] h_2) fun r4 h_24=>obind (z2f r4) fun t4=>ifB t4 (obind (z34 t0) fun t7=>obind (z20 1 t7) fun t8=>obind (z9 h_24 t8) fun v9=>obind (z17 .i64 v9) fun t9=>obind (z34 t0) fun t11=>obind (z20 0 t11) fun t12=>obind (z9 h_24 t12) fun v13=>obind (z31 v13) fun t13=>lett (decide (t9<(z7e t13))) fun (t15:Bool)=>k6 t15 h_24) (k6 false h_24)
set_option maxHeartbeats 4000000 in
set_option maxRecDepth 20000 in
theorem z1ff{call:z11}(hc:SaysAll Try.prog call){n:Nat}{t0:AV}{h:AHeap}{rR:ARes}{hR:AHeap}(hF:z91 call n t0 h=some (rR,hR)):Says Try.prog 73 [t0] h rR hR:=by
 unfold z91 at hF;refine sO Try.func73 fun w0 m0=>?_;refine wW [(0,t0)] ?_;refine oG fun n1=>W.r ?_;refine oN 2 hF fun h_2 hF=>?_;refine oV [(0,t0),(2,(z1a h))] (n1 ?_);refine oH fun n4 q4=>?_;refine W.s (fun K5 n5 e5 q5 p5=>?_);obtain⟨k6,e6,hF⟩:=z7 hF
 have J6:∀(t16:Bool) (h_7:AHeap),k6 t16 h_7=some (rR,hR)→Go w0 m0 (Func.ntmps Try.f73) (K5 .normal) [(0,t0),(2,(z1a h)),(16,.bool t16)] [] h_7:=by
  intro t16 h_7 hF;rw[e6] at hF;refine n5 ?_
  cases t16 with
  |true=>
   refine oT hF fun hF=>?_;refine oG fun n8=>W.r ?_;refine oA 17 t0 ?_;refine oC0 18 hF fun t18 hF=>?_;refine oF 19 154 1 hF fun t19 hF=>?_;refine oLi 20 3 hF fun t20 hF=>?_;refine oA 21 (.agg ([.int .i64 7,.int .i64 t20]:List AV)) ?_;refine oW 145 (.agg ([.int .i64 7,.int .i64 t20]:List AV)) hF fun h_13 hF=>?_;refine oV [(2,(z1a h))] (n8 (oY (q4 ?_)));obtain⟨w2,e15,hF⟩:=z4 hF;exact lZ hF [.cell 2 145] [.agg w2] (rY e15 zc)
  |false=>
   refine oU hF fun hF=>?_;refine oZ (n4 ?_);refine oG fun n16=>W.r ?_;refine oA 22 t0 ?_;refine oCa hc 23 hF fun t23 h_17 hF=>?_;refine oW 145 (.agg t23) hF fun h_20 hF=>?_;refine oV [(2,(z1a h))] (n16 (oY ?_));obtain⟨w2_23,e22,hF⟩:=z4 hF;exact lZ hF [.cell 2 145] [.agg w2_23] (rY e22 zc)
 refine y12 (by kernel_rfl) (hc.ok w0) (plan:=[0,1,2,3,4,5,6,7,8,9,10,11,12,13]) (by kernel_rfl) (by kernel_rfl) (by kernel_rfl) ?_;refine WD.a 0 (some 3) t0 h_2 ?_
 replace hF:=z18 hF;obtain⟨r4,h_24,e25,hF⟩:=hF
 replace hF:=z4 hF;obtain⟨t4,c26,hF⟩:=hF
 have c26:=z1e c26;subst c26;refine WD.call (d:=(some 4)) (by kernel_rfl) (by kernel_rfl) (by kernel_rfl) e25 (k:=2) (by kernel_rfl) (fun _=>(by kernel_rfl)) (by decide) ?_;refine WD.a 0 (some 5) (.bool t4) h_24 ?_
 cases t4 with
 |true=>
  replace hF:=z53 hF
  refine WD.a 0 (some 6) t0 h_24 ?_;obtain⟨t7,e27,hF⟩:=z4 hF;refine WD.b 0 (some 7) t7 h_24 (z1f (h:=h_24) e27) ?_;obtain⟨t8,e28,hF⟩:=z4 hF;refine WD.b 0 (some 8) t8 h_24 (z10 (P:=Try.prog) (h:=h_24) (s:=154) (f:=1) (by kernel_rfl) e28) ?_
  replace hF:=z4 hF;obtain⟨v9,e29,hF⟩:=hF
  replace hF:=z4 hF;obtain⟨t9,c30,hF⟩:=hF
  have c30:=z15 c30;subst c30;refine WD.b 1 (some 9) (.int .i64 t9) h_24 (z12 (P:=Try.prog) (h:=h_24) (t:=3) (by kernel_rfl) e29) ?_;refine WD.a 0 (some 10) t0 h_24 ?_;obtain⟨t11,e31,hF⟩:=z4 hF;refine WD.b 0 (some 11) t11 h_24 (z1f (h:=h_24) e31) ?_;obtain⟨t12,e32,hF⟩:=z4 hF;refine WD.b 0 (some 12) t12 h_24 (z10 (P:=Try.prog) (h:=h_24) (s:=154) (f:=0) (by kernel_rfl) e32) ?_
  replace hF:=z4 hF;obtain⟨v13,e33,hF⟩:=hF
  replace hF:=z4 hF;obtain⟨t13,c34,hF⟩:=hF
  have c34:=z22 c34;subst c34;refine WD.b 1 (some 13) (ze t13) h_24 (z12 (P:=Try.prog) (h:=h_24) (t:=9) (by kernel_rfl) e33) ?_;refine WD.a 0 (some 14) (.int .i64 (z7e t13)) h_24 ?_;obtain⟨t15,e35,hF⟩:=z7 hF;refine WD.val (d:=(some 15)) (v:=.bool t15) (h':=h_24) (by kernel_rfl) (by kernel_rfl) (z2a AV.bool e35 (by kernel_rfl)) (k:=0) (by kernel_rfl) (fun e=>absurd e (by decide)) (by decide) ?_;refine WD.a 0 (some 16) (.bool t15) h_24 ?_;refine WD.nil ?_;exact gW _ (J6 _ _ hF)
 |false=>
  replace hF:=z54 hF
  refine oD 0 (some 6) ?_;refine oD 0 (some 7) ?_;refine oD 0 (some 8) ?_;refine oD 1 (some 9) ?_;refine oD 0 (some 10) ?_;refine oD 0 (some 11) ?_;refine oD 0 (some 12) ?_;refine oD 1 (some 13) ?_;refine oD 0 (some 14) ?_;refine oD 0 (some 15) ?_;refine WD.a 0 (some 16) (.bool false) h_24 ?_;refine WD.nil ?_;exact gW _ (J6 _ _ hF)
noncomputable def z68(_:z11)(_:Nat)(t0:AV)(h:AHeap):R:=lett (newH h 145 [.int .i64 0,.int .i64 0]) fun h_2=>outK (z65 Try.prog h_2 .eql 140 true (some t0) (some AV.nilp)) fun v4 h_6=>obind (z2f v4) fun t4=>ifB t4 (obind (z27 h_6 2 ([.int .i64 1,.int .i64 0]:List AV) (z1a h)) fun h_10=>obind (z2b h_10 2 (z1a h)) fun w2=>some (.ret (.agg w2),h_10)) (obind (z34 t0) fun t7=>obind (z20 2 t7) fun t8=>obind (z2b h_6 2 t8) fun t9=>obind (z27 h_6 2 t9 (z1a h)) fun h_17=>obind (z2b h_17 2 (z1a h)) fun w2_20=>some (.ret (.agg w2_20),h_17))
set_option maxHeartbeats 4000000 in
set_option maxRecDepth 20000 in
theorem z1c6{call:z11}(_:SaysAll Try.prog call){n:Nat}{t0:AV}{h:AHeap}{rR:ARes}{hR:AHeap}(hF:z68 call n t0 h=some (rR,hR)):Says Try.prog 83 [t0] h rR hR:=by
 unfold z68 at hF;refine sO Try.func83 fun w0 m0=>?_;refine wW [(0,t0)] ?_;refine oG fun n1=>W.r ?_;refine oN 2 hF fun h_2 hF=>?_;refine oV [(0,t0),(2,(z1a h))] (n1 ?_);refine oH fun n4 q4=>?_;refine oG fun n5=>W.r ?_;refine oA 3 t0 ?_
 replace hF:=z26 hF;obtain⟨v4,h_6,e7,hF⟩:=hF
 replace hF:=z4 hF;obtain⟨t4,c8,hF⟩:=hF
 have c8:=z1e c8;subst c8;refine WL.b (some 4) (.bool t4) h_6 e7 ?_;refine oV [(0,t0),(2,(z1a h)),(4,.bool t4)] (n5 ?_)
 cases t4 with
 |true=>
  refine oT hF fun hF=>?_;refine oG fun n9=>W.r ?_;refine oA 5 (.agg ([.int .i64 1,.int .i64 0]:List AV)) ?_;refine oW 145 (.agg ([.int .i64 1,.int .i64 0]:List AV)) hF fun h_10 hF=>?_;refine oV [(2,(z1a h))] (n9 (oY (q4 ?_)));obtain⟨w2,e12,hF⟩:=z4 hF;exact lZ hF [.cell 2 145] [.agg w2] (rY e12 zc)
 |false=>
  refine oU hF fun hF=>?_;refine oZ (n4 ?_);refine oG fun n13=>W.r ?_;refine oA 6 t0 ?_;refine oC0 7 hF fun t7 hF=>?_;refine oF 8 154 2 hF fun t8 hF=>?_;refine oR 9 145 hF fun t9 hF=>?_;refine oW 145 (.agg t9) hF fun h_17 hF=>?_;refine oV [(2,(z1a h))] (n13 (oY ?_));obtain⟨w2_20,e19,hF⟩:=z4 hF;exact lZ hF [.cell 2 145] [.agg w2_20] (rY e19 zc)
noncomputable def z76(t0:AV)(t1:Int)(k33:Int→AHeap→R)(self:Int→Int→AHeap→R)(t5_37:Int)(t28:Int)(h_38:AHeap):R:=lett (decide (t28<t1)) fun (t29:Bool)=>ifB t29 (obind (shlI .u64 t5_37 8) fun t31=>obind (z34 t0) fun t33=>obind (z20 0 t33) fun t34=>obind (z9 h_38 t34) fun v35=>obind (z31 v35) fun t35=>obind (z34 t0) fun t37=>obind (z20 1 t37) fun t38=>obind (z9 h_38 t38) fun v39=>obind (z17 .i64 v39) fun t39=>obind (z352 t35 t39) fun t40=>lett (IntKind.u64.wrap t40) fun (t41:Int)=>lett (orI .u64 t31 t41) fun (t42:Int)=>obind (z34 t0) fun t44=>obind (z20 1 t44) fun t45=>obind (z9 h_38 t45) fun v46=>obind (z17 .i64 v46) fun t46=>lett (IntKind.i64.wrap (t46+1)) fun (t47:Int)=>obind (z34 t0) fun t48=>obind (z20 1 t48) fun t49=>obind (z27 h_38 1 [.int .i64 t47] t49) fun h_64=>lett (IntKind.i64.wrap (t28+1)) fun (t50:Int)=>self t42 t50 h_64) (k33 t5_37 h_38)
noncomputable def z5c(t0:AV)(t1:Int)(k33:Int→AHeap→R):Nat→Int→Int→AHeap→R:=z130 (fun _ _ _=>none) (z76 t0 t1 k33)
theorem zfa(t0:AV)(t1:Int)(k33:Int→AHeap→R)(m:Nat):z5c t0 t1 k33 (m+1)=z76 t0 t1 k33 (z5c t0 t1 k33 m):=rfl
noncomputable def z5e(call:z11)(n:Nat)(t0:AV)(t1:Int)(h:AHeap):R:=callN (call 82 [t0] h) fun r7 h_4=>obind (z2f r7) fun t7=>lett (!t7) fun (t8:Bool)=>ifB t8 (some (.ret (.int .u64 0),h_4)) (obind (z34 t0) fun t10=>obind (z20 0 t10) fun t11=>obind (z9 h_4 t11) fun v12=>obind (z31 v12) fun t12=>obind (z34 t0) fun t15=>obind (z20 1 t15) fun t16=>obind (z9 h_4 t16) fun v17=>obind (z17 .i64 v17) fun t17=>lett (IntKind.i64.wrap ((z7e t12) - t17)) fun (t18:Int)=>lett (decide (t18<t1)) fun (t20:Bool)=>ifB t20 (obind (z34 t0) fun t23=>obind (z20 1 t23) fun t24=>obind (z9 h_4 t24) fun v25=>obind (z17 .i64 v25) fun t25=>callN (call 86 [t0,.int .i64 7,.int .i64 t25] h_4) fun _ h_26=>some (.ret (.int .u64 0),h_26)) (lett (fun (t5:Int) (h_34:AHeap)=>some (.ret (.int .u64 t5),h_34)) fun k33=>z5c t0 t1 k33 n 0 0 h_4))
set_option maxHeartbeats 4000000 in
set_option maxRecDepth 20000 in
theorem z19e{call:z11}(hc:SaysAll Try.prog call){n:Nat}{t0:AV}{t1:Int}{h:AHeap}{rR:ARes}{hR:AHeap}(hF:z5e call n t0 t1 h=some (rR,hR)):Says Try.prog 81 [t0,.int .i64 t1] h rR hR:=by
 unfold z5e at hF;refine sO Try.func81 fun w0 m0=>?_;refine wW [(0,t0),(1,.int .i64 t1)] ?_;refine oG fun n1=>W.r ?_;refine oA 4 (.int .u64 0) ?_;refine oV [(0,t0),(1,.int .i64 t1)] (n1 ?_);refine oH fun n2 q2=>?_;refine oG fun n3=>W.r ?_;refine oA 6 t0 ?_;refine oCb hc 7 hF fun t7 h_4 hF=>?_;refine oB 8 hF fun t8 hF=>?_;refine oV [(0,t0),(1,.int .i64 t1),(8,.bool t8)] (n3 ?_)
 cases t8 with
 |true=>
  refine oT hF fun hF=>?_;refine oG fun n8=>W.r ?_;refine oA 4 (.int .u64 0) ?_;refine oV [(4,.int .u64 0)] (n8 (oY (q2 ?_)));exact lZ hF [.tmp 4] [.int .u64 0] (rT zc)
 |false=>
  refine oU hF fun hF=>?_;refine oZ (n2 ?_);refine oH fun n9 q9=>?_;refine oG fun n10=>?_;refine y12 (by kernel_rfl) (hc.ok w0) (plan:=[0,1,2,3,4,5,6,7,8,9,10,11]) (by kernel_rfl) (by kernel_rfl) (by kernel_rfl) ?_;refine WD.a 0 (some 9) t0 h_4 ?_;obtain⟨t10,e11,hF⟩:=z4 hF;refine WD.b 0 (some 10) t10 h_4 (z1f (h:=h_4) e11) ?_;obtain⟨t11,e12,hF⟩:=z4 hF;refine WD.b 0 (some 11) t11 h_4 (z10 (P:=Try.prog) (h:=h_4) (s:=154) (f:=0) (by kernel_rfl) e12) ?_
  replace hF:=z4 hF;obtain⟨v12,e13,hF⟩:=hF
  replace hF:=z4 hF;obtain⟨t12,c14,hF⟩:=hF
  have c14:=z22 c14;subst c14;refine WD.b 1 (some 12) (ze t12) h_4 (z12 (P:=Try.prog) (h:=h_4) (t:=9) (by kernel_rfl) e13) ?_;refine WD.a 0 (some 13) (.int .i64 (z7e t12)) h_4 ?_;refine WD.a 0 (some 14) t0 h_4 ?_;obtain⟨t15,e15,hF⟩:=z4 hF;refine WD.b 0 (some 15) t15 h_4 (z1f (h:=h_4) e15) ?_;obtain⟨t16,e16,hF⟩:=z4 hF;refine WD.b 0 (some 16) t16 h_4 (z10 (P:=Try.prog) (h:=h_4) (s:=154) (f:=1) (by kernel_rfl) e16) ?_
  replace hF:=z4 hF;obtain⟨v17,e17,hF⟩:=hF
  replace hF:=z4 hF;obtain⟨t17,c18,hF⟩:=hF
  have c18:=z15 c18;subst c18;refine WD.b 1 (some 17) (.int .i64 t17) h_4 (z12 (P:=Try.prog) (h:=h_4) (t:=3) (by kernel_rfl) e17) ?_;obtain⟨t18,e19,hF⟩:=z7 hF;refine WD.val (d:=(some 18)) (v:=.int .i64 t18) (h':=h_4) (by kernel_rfl) (by kernel_rfl) (z2a (AV.int .i64) e19 (by kernel_rfl)) (k:=0) (by kernel_rfl) (fun e=>absurd e (by decide)) (by decide) ?_;refine WD.a 0 (some 19) (.int .i64 t1) h_4 ?_;obtain⟨t20,e20,hF⟩:=z7 hF;refine WD.val (d:=(some 20)) (v:=.bool t20) (h':=h_4) (by kernel_rfl) (by kernel_rfl) (z2a AV.bool e20 (by kernel_rfl)) (k:=0) (by kernel_rfl) (fun e=>absurd e (by decide)) (by decide) ?_;refine WD.nil ?_;refine gW [(0,t0),(1,.int .i64 t1),(20,.bool t20)] (n10 ?_)
  cases t20 with
  |true=>
   refine oT hF fun hF=>?_;refine oG fun n21=>W.r ?_;refine oA 21 t0 ?_;refine oA 22 t0 ?_;refine oC0 23 hF fun t23 hF=>?_;refine oF 24 154 1 hF fun t24 hF=>?_;refine oLi 25 3 hF fun t25 hF=>?_;refine oC hc (some 26) hF fun r26 h_26 hF=>?_;refine oV [] (n21 ?_);refine oG fun n28=>W.r ?_;refine oA 4 (.int .u64 0) ?_;refine oV [(4,.int .u64 0)] (n28 (oY (q9 ?_)));exact lZ hF [.tmp 4] [.int .u64 0] (rT zc)
  |false=>
   refine oU hF fun hF=>?_;refine oZ (n9 ?_);refine oG fun n29=>W.r ?_;refine oA 5 (.int .u64 0) ?_;refine oV [(0,t0),(1,.int .i64 t1),(5,.int .u64 0)] (n29 ?_);refine W.s (fun K30 n30 e30 q30 p30=>?_);refine oG fun n31=>W.r ?_;refine oA 27 (.int .i64 t1) ?_;refine oA 28 (.int .i64 0) ?_;refine oV [(0,t0),(5,.int .u64 0),(27,.int .i64 t1),(28,.int .i64 0)] (n31 ?_);obtain⟨k33,e33,hF⟩:=z7 hF
   have J33:∀(t5:Int) (h_34:AHeap),k33 t5 h_34=some (rR,hR)→Go w0 m0 (Func.ntmps Try.f81) (K30 .normal) [(5,.int .u64 t5)] [] h_34:=by
    intro t5 h_34 hF;rw[e33] at hF;refine n30 ?_;refine oG fun n35=>W.r ?_;refine oA 51 (.int .u64 t5) ?_;refine oA 4 (.int .u64 t5) ?_;refine oV [(4,.int .u64 t5)] (n35 (oY ?_));exact lZ hF [.tmp 4] [.int .u64 t5] (rT zc)
   refine W.blockK (by kernel_rfl) (fun K32 n32 s32 o32 q32 p32=>?_);refine W.loopK (by kernel_rfl) (fun I36 K36 b36 n36 e36 q36 p36=>?_)
   have L36:∀(m:Nat) (t5_37:Int) (t28:Int) (h_38:AHeap),z5c t0 t1 k33 m t5_37 t28 h_38=some (rR,hR)→Go w0 m0 (Func.ntmps Try.f81) I36 [(0,t0),(5,.int .u64 t5_37),(27,.int .i64 t1),(28,.int .i64 t28)] [] h_38:=by
    intro m
    induction m with
    |zero=>intro t5_37 t28 h_38 hF;cases hF
    |succ m ih36=>
     intro t5_37 t28 h_38 hF;rw[zfa] at hF;unfold z76 at hF;refine b36 ?_;refine oG fun n39=>W.r ?_;refine oB 29 hF fun t29 hF=>?_;refine oV [(0,t0),(5,.int .u64 t5_37),(27,.int .i64 t1),(28,.int .i64 t28),(29,.bool t29)] (n39 ?_);refine W.s (fun K41 n41 e41 q41 p41=>?_)
     cases t29 with
     |true=>
      refine oT hF fun hF=>?_;refine oZ (n41 ?_);refine oG fun n42=>?_;refine W.blockK (by kernel_rfl) (fun K43 n43 s43 o43 q43 p43=>?_);refine oG fun n44=>?_;refine y12 (by kernel_rfl) (hc.ok w0) (plan:=[0,1,2,3,4,5,6,7,8,9,10,11,12,13]) (by kernel_rfl) (by kernel_rfl) (by kernel_rfl) ?_;refine WD.a 0 (some 30) (.int .u64 t5_37) h_38 ?_;obtain⟨t31,e45,hF⟩:=z4 hF;refine WD.b 0 (some 31) (.int .u64 t31) h_38 (shl_int (P:=Try.prog) (h:=h_38) (t:=64) (k':=.u64) (lit:=true) e45) ?_;refine WD.a 0 (some 32) t0 h_38 ?_;obtain⟨t33,e46,hF⟩:=z4 hF;refine WD.b 0 (some 33) t33 h_38 (z1f (h:=h_38) e46) ?_;obtain⟨t34,e47,hF⟩:=z4 hF;refine WD.b 0 (some 34) t34 h_38 (z10 (P:=Try.prog) (h:=h_38) (s:=154) (f:=0) (by kernel_rfl) e47) ?_
      replace hF:=z4 hF;obtain⟨v35,e48,hF⟩:=hF
      replace hF:=z4 hF;obtain⟨t35,c49,hF⟩:=hF
      have c49:=z22 c49;subst c49;refine WD.b 1 (some 35) (ze t35) h_38 (z12 (P:=Try.prog) (h:=h_38) (t:=9) (by kernel_rfl) e48) ?_;refine WD.a 0 (some 36) t0 h_38 ?_;obtain⟨t37,e50,hF⟩:=z4 hF;refine WD.b 0 (some 37) t37 h_38 (z1f (h:=h_38) e50) ?_;obtain⟨t38,e51,hF⟩:=z4 hF;refine WD.b 0 (some 38) t38 h_38 (z10 (P:=Try.prog) (h:=h_38) (s:=154) (f:=1) (by kernel_rfl) e51) ?_
      replace hF:=z4 hF;obtain⟨v39,e52,hF⟩:=hF
      replace hF:=z4 hF;obtain⟨t39,c53,hF⟩:=hF
      have c53:=z15 c53;subst c53;refine WD.b 1 (some 39) (.int .i64 t39) h_38 (z12 (P:=Try.prog) (h:=h_38) (t:=3) (by kernel_rfl) e52) ?_;obtain⟨t40,e54,hF⟩:=z4 hF;refine WD.b 0 (some 40) (.int .u8 t40) h_38 (z158 (P:=Try.prog) (h:=h_38) (t:=9) (k:=.i64) (by kernel_rfl) e54) ?_;obtain⟨t41,e55,hF⟩:=z7 hF;refine WD.val (d:=(some 41)) (v:=.int .u64 t41) (h':=h_38) (by kernel_rfl) (by kernel_rfl) (z2a (AV.int .u64) e55 (by kernel_rfl)) (k:=0) (by kernel_rfl) (fun e=>absurd e (by decide)) (by decide) ?_;obtain⟨t42,e56,hF⟩:=z7 hF;refine WD.val (d:=(some 42)) (v:=.int .u64 t42) (h':=h_38) (by kernel_rfl) (by kernel_rfl) (z2a (AV.int .u64) e56 (by kernel_rfl)) (k:=0) (by kernel_rfl) (fun e=>absurd e (by decide)) (by decide) ?_;refine WD.val (d:=(some 5)) (v:=.int .u64 t42) (h':=h_38) (by kernel_rfl) (by kernel_rfl) (by kernel_rfl) (k:=2) (by kernel_rfl) (fun _=>(by kernel_rfl)) (by decide) ?_;refine WD.nil ?_;refine gW [(0,t0),(5,.int .u64 t42),(27,.int .i64 t1),(28,.int .i64 t28)] (n44 (W.r ?_));refine oA 43 t0 ?_;refine oC0 44 hF fun t44 hF=>?_;refine oF 45 154 1 hF fun t45 hF=>?_;refine oLi 46 3 hF fun t46 hF=>?_;refine oI 47 .i64 hF fun t47 hF=>?_;refine oC0 48 hF fun t48 hF=>?_;refine oF 49 154 1 hF fun t49 hF=>?_;refine oW 3 (.int .i64 t47) hF fun h_64 hF=>?_;refine oV [(0,t0),(5,.int .u64 t42),(27,.int .i64 t1),(28,.int .i64 t28)] (n43 (n42 (W.r ?_)));refine oI 50 .i64 hF fun t50 hF=>?_;refine oA 28 (.int .i64 t50) ?_;refine oV [(0,t0),(5,.int .u64 t42),(27,.int .i64 t1),(28,.int .i64 t50)] (n36 ?_);exact gW _ (ih36 _ _ _ hF)
     |false=>
      refine oU hF fun hF=>?_;refine W.exit (by kernel_rfl) ?_;refine e41 (e36 ?_);refine s32 (by kernel_rfl) ?_;exact gW _ (J33 _ _ hF)
   exact gW _ (L36 _ _ _ _ hF)
noncomputable def z67(_:z11)(_:Nat)(t0:AV)(h:AHeap):R:=outK (z65 Try.prog h .neq 140 true (some t0) (some AV.nilp)) fun v4 h_3=>obind (z2f v4) fun t4=>lett (fun (t12:Bool) (h_6:AHeap)=>some (.ret (.bool t12),h_6)) fun j12=>ifB t4 (obind (z34 t0) fun t7=>obind (z20 2 t7) fun t8=>obind (z20 0 t8) fun t9=>obind (z9 h_3 t9) fun v10=>obind (z17 .i64 v10) fun t10=>lett ((t10:Int) == 0) fun (t11:Bool)=>j12 t11 h_3) (j12 false h_3)
set_option maxHeartbeats 4000000 in
set_option maxRecDepth 20000 in
theorem z1c5{call:z11}(_:SaysAll Try.prog call){n:Nat}{t0:AV}{h:AHeap}{rR:ARes}{hR:AHeap}(hF:z67 call n t0 h=some (rR,hR)):Says Try.prog 82 [t0] h rR hR:=by
 unfold z67 at hF;refine sO Try.func82 fun w0 m0=>?_;refine wW [(0,t0)] ?_;refine oG fun n1=>W.r ?_;refine oA 2 (.bool false) ?_;refine oV [(0,t0)] (n1 ?_);refine W.s (fun K2 n2 e2 q2 p2=>?_);refine W.r ?_;refine oA 3 t0 ?_
 replace hF:=z26 hF;obtain⟨v4,h_3,e4,hF⟩:=hF
 replace hF:=z4 hF;obtain⟨t4,c5,hF⟩:=hF
 have c5:=z1e c5;subst c5;refine WL.b (some 4) (.bool t4) h_3 e4 ?_;refine oA 5 (.bool t4) ?_;obtain⟨j12,e7,hF⟩:=z7 hF
 have J8:∀(t12:Bool) (h_6:AHeap),j12 t12 h_6=some (rR,hR)→WL Try.prog w0 m0 (Func.ntmps Try.f82) (Code.ops (y6 (y4 (z3d Try.f82)))) 10 K2 [(12,.bool t12)] [] h_6:=by
  intro t12 h_6 hF;rw[e7] at hF;refine oA 2 (.bool t12) ?_;refine oV [(2,.bool t12)] (n2 (oY ?_));exact lZ hF [.tmp 2] [.bool t12] (rT zc)
 cases t4 with
 |true=>
  replace hF:=z53 hF
  refine oA 6 t0 ?_;refine oC0 7 hF fun t7 hF=>?_;refine oF 8 154 2 hF fun t8 hF=>?_;refine oF 9 145 0 hF fun t9 hF=>?_;refine oLi 10 26 hF fun t10 hF=>?_;refine oB 11 hF fun t11 hF=>?_;refine oA 12 (.bool t11) ?_;exact lW _ (J8 _ _ hF)
 |false=>
  replace hF:=z54 hF
  refine WL.o (some 6) ?_;refine WL.o (some 7) ?_;refine WL.o (some 8) ?_;refine WL.o (some 9) ?_;refine WL.o (some 10) ?_;refine WL.o (some 11) ?_;refine oA 12 (.bool false) ?_;exact lW _ (J8 _ _ hF)
noncomputable def z77(_:z11)(_:Nat)(t0:AV)(t1:Int)(t2:Int)(h:AHeap):R:=obind (z34 t0) fun t10=>obind (z20 2 t10) fun t11=>obind (z27 h 2 ([.int .i64 t1,.int .i64 t2]:List AV) t11) fun h_3=>some (.ret (.tup []),h_3)
set_option maxHeartbeats 4000000 in
set_option maxRecDepth 20000 in
theorem z1d4{call:z11}(_:SaysAll Try.prog call){n:Nat}{t0:AV}{t1:Int}{t2:Int}{h:AHeap}{rR:ARes}{hR:AHeap}(hF:z77 call n t0 t1 t2 h=some (rR,hR)):Says Try.prog 86 [t0,.int .i64 t1,.int .i64 t2] h rR hR:=by
 unfold z77 at hF;refine sO Try.func86 fun w0 m0=>?_;refine wW [(0,t0),(1,.int .i64 t1),(2,.int .i64 t2)] ?_;refine W.r ?_;refine oA 6 t0 ?_;refine oA 7 (.int .i64 t1) ?_;refine oA 8 (.int .i64 t2) ?_;refine oA 9 (.agg ([.int .i64 t1,.int .i64 t2]:List AV)) ?_;refine oC0 10 hF fun t10 hF=>?_;refine oF 11 154 2 hF fun t11 hF=>?_;refine oW 145 (.agg ([.int .i64 t1,.int .i64 t2]:List AV)) hF fun h_3 hF=>?_;refine oV [] ?_;exact lY hF [] [] zc
noncomputable def z140(_:z11)(_:Nat)(t0:List AV)(h:AHeap):R:=outK (zba h 31 (some (.agg t0))) fun v1 h_2=>obind (z20 0 v1) fun t3=>obind (z9 h_2 t3) fun v4=>obind (z17 .i64 v4) fun t4=>lett (decide (t4<0)) fun (t5:Bool)=>lett (fun (t10:Bool) (h_10:AHeap)=>lett (fun (t15:Bool) (h_13:AHeap)=>lett (fun (t20:Bool) (h_16:AHeap)=>ifB t20 (some (.ret (.int .i64 2),h_16)) (some (.ret (.int .i64 0),h_16))) fun j20=>ifB t15 (j20 true h_13) (obind (z20 1 v1) fun t17=>obind (z9 h_13 t17) fun v18=>obind (z17 .i64 v18) fun t18=>lett (decide (t18≥3)) fun (t19:Bool)=>j20 t19 h_13)) fun j15=>ifB t10 (j15 true h_10) (obind (z20 1 v1) fun t12=>obind (z9 h_10 t12) fun v13=>obind (z17 .i64 v13) fun t13=>lett (decide (t13<(-1))) fun (t14:Bool)=>j15 t14 h_10)) fun j10=>ifB t5 (j10 true h_2) (obind (z20 0 v1) fun t7=>obind (z9 h_2 t7) fun v8=>obind (z17 .i64 v8) fun t8=>lett (decide (t8>1099511627776)) fun (t9:Bool)=>j10 t9 h_2)
set_option maxHeartbeats 4000000 in
set_option maxRecDepth 20000 in
theorem z332{call:z11}(_:SaysAll Try.prog call){n:Nat}{t0:List AV}{h:AHeap}{rR:ARes}{hR:AHeap}(hF:z140 call n t0 h=some (rR,hR)):Says Try.prog 17 [.agg t0] h rR hR:=by
 unfold z140 at hF;refine sO Try.func17 fun w0 m0=>?_;refine wW [(0,.agg t0)] ?_;refine oG fun n1=>W.r ?_;refine oK 1 hF fun v1 h_2 hF=>?_;refine oA 2 (.int .i64 0) ?_;refine oV [(1,v1)] (n1 ?_);refine oH fun n4 q4=>?_;refine W.s (fun K5 n5 e5 q5 p5=>?_);refine W.r ?_;refine oF 3 31 0 hF fun t3 hF=>?_;refine oLi 4 3 hF fun t4 hF=>?_;refine oB 5 hF fun t5 hF=>?_;refine oA 6 (.bool t5) ?_;obtain⟨j10,e11,hF⟩:=z7 hF
 have J12:∀(t10:Bool) (h_10:AHeap),j10 t10 h_10=some (rR,hR)→WL Try.prog w0 m0 (Func.ntmps Try.f17) (Code.ops (y6 (y6 (y4 (z3d Try.f17))))) 8 K5 [(1,v1),(10,.bool t10)] [] h_10:=by
  intro t10 h_10 hF;rw[e11] at hF;refine oA 11 (.bool t10) ?_;obtain⟨j15,e14,hF⟩:=z7 hF
  have J15:∀(t15:Bool) (h_13:AHeap),j15 t15 h_13=some (rR,hR)→WL Try.prog w0 m0 (Func.ntmps Try.f17) (Code.ops (y6 (y6 (y4 (z3d Try.f17))))) 13 K5 [(1,v1),(15,.bool t15)] [] h_13:=by
   intro t15 h_13 hF;rw[e14] at hF;refine oA 16 (.bool t15) ?_;obtain⟨j20,e17,hF⟩:=z7 hF
   have J18:∀(t20:Bool) (h_16:AHeap),j20 t20 h_16=some (rR,hR)→WL Try.prog w0 m0 (Func.ntmps Try.f17) (Code.ops (y6 (y6 (y4 (z3d Try.f17))))) 18 K5 [(20,.bool t20)] [] h_16:=by
    intro t20 h_16 hF;rw[e17] at hF;refine oV [(20,.bool t20)] (n5 ?_)
    cases t20 with
    |true=>
     refine oT hF fun hF=>?_;refine oG fun n19=>W.r ?_;refine oA 2 (.int .i64 2) ?_;refine oV [(2,.int .i64 2)] (n19 (oY (q4 ?_)));exact lZ hF [.tmp 2] [.int .i64 2] (rT zc)
    |false=>
     refine oU hF fun hF=>?_;refine oZ (n4 ?_);refine oG fun n20=>W.r ?_;refine oA 2 (.int .i64 0) ?_;refine oV [(2,.int .i64 0)] (n20 (oY ?_));exact lZ hF [.tmp 2] [.int .i64 0] (rT zc)
   cases t15 with
   |true=>
    replace hF:=z53 hF
    refine WL.o (some 17) ?_;refine WL.o (some 18) ?_;refine WL.o (some 19) ?_;refine oA 20 (.bool true) ?_;exact lW _ (J18 _ _ hF)
   |false=>
    replace hF:=z54 hF
    refine oF 17 31 1 hF fun t17 hF=>?_;refine oLi 18 3 hF fun t18 hF=>?_;refine oB 19 hF fun t19 hF=>?_;refine oA 20 (.bool t19) ?_;exact lW _ (J18 _ _ hF)
  cases t10 with
  |true=>
   replace hF:=z53 hF
   refine WL.o (some 12) ?_;refine WL.o (some 13) ?_;refine WL.o (some 14) ?_;refine oA 15 (.bool true) ?_;exact lW _ (J15 _ _ hF)
  |false=>
   replace hF:=z54 hF
   refine oF 12 31 1 hF fun t12 hF=>?_;refine oLi 13 3 hF fun t13 hF=>?_;refine oB 14 hF fun t14 hF=>?_;refine oA 15 (.bool t14) ?_;exact lW _ (J15 _ _ hF)
 cases t5 with
 |true=>
  replace hF:=z53 hF
  refine WL.o (some 7) ?_;refine WL.o (some 8) ?_;refine WL.o (some 9) ?_;refine oA 10 (.bool true) ?_;exact lW _ (J12 _ _ hF)
 |false=>
  replace hF:=z54 hF
  refine oF 7 31 0 hF fun t7 hF=>?_;refine oLi 8 3 hF fun t8 hF=>?_;refine oB 9 hF fun t9 hF=>?_;refine oA 10 (.bool t9) ?_;exact lW _ (J12 _ _ hF)
noncomputable def zef(_:z11)(_:Nat)(t0:AV)(h:AHeap):R:=lett (newH h 31 [.int .i64 0,.int .i64 0]) fun h_2=>outK (z65 Try.prog h_2 .eql 25 true (some t0) (some AV.nilp)) fun v4 h_6=>obind (z2f v4) fun t4=>ifB t4 (obind (z27 h_6 2 ([.int .i64 0,.int .i64 0]:List AV) (z1a h)) fun h_10=>obind (z2b h_10 2 (z1a h)) fun w2=>some (.ret (.agg w2),h_10)) (obind (z34 t0) fun t7=>obind (z20 3 t7) fun t8=>obind (z20 1 t8) fun t9=>obind (z2b h_6 2 t9) fun t10=>obind (z27 h_6 2 t10 (z1a h)) fun h_18=>obind (z2b h_18 2 (z1a h)) fun w2_21=>some (.ret (.agg w2_21),h_18))
set_option maxHeartbeats 4000000 in
set_option maxRecDepth 20000 in
theorem z2a4{call:z11}(_:SaysAll Try.prog call){n:Nat}{t0:AV}{h:AHeap}{rR:ARes}{hR:AHeap}(hF:zef call n t0 h=some (rR,hR)):Says Try.prog 16 [t0] h rR hR:=by
 unfold zef at hF;refine sO Try.func16 fun w0 m0=>?_;refine wW [(0,t0)] ?_;refine oG fun n1=>W.r ?_;refine oN 2 hF fun h_2 hF=>?_;refine oV [(0,t0),(2,(z1a h))] (n1 ?_);refine oH fun n4 q4=>?_;refine oG fun n5=>W.r ?_;refine oA 3 t0 ?_
 replace hF:=z26 hF;obtain⟨v4,h_6,e7,hF⟩:=hF
 replace hF:=z4 hF;obtain⟨t4,c8,hF⟩:=hF
 have c8:=z1e c8;subst c8;refine WL.b (some 4) (.bool t4) h_6 e7 ?_;refine oV [(0,t0),(2,(z1a h)),(4,.bool t4)] (n5 ?_)
 cases t4 with
 |true=>
  refine oT hF fun hF=>?_;refine oG fun n9=>W.r ?_;refine oA 5 (.agg ([.int .i64 0,.int .i64 0]:List AV)) ?_;refine oW 31 (.agg ([.int .i64 0,.int .i64 0]:List AV)) hF fun h_10 hF=>?_;refine oV [(2,(z1a h))] (n9 (oY (q4 ?_)));obtain⟨w2,e12,hF⟩:=z4 hF;exact lZ hF [.cell 2 31] [.agg w2] (rY e12 zc)
 |false=>
  refine oU hF fun hF=>?_;refine oZ (n4 ?_);refine oG fun n13=>W.r ?_;refine oA 6 t0 ?_;refine oC0 7 hF fun t7 hF=>?_;refine oF 8 92 2 hF fun t8 hF=>?_;refine oF 9 89 1 hF fun t9 hF=>?_;refine oR 10 31 hF fun t10 hF=>?_;refine oW 31 (.agg t10) hF fun h_18 hF=>?_;refine oV [(2,(z1a h))] (n13 (oY ?_));obtain⟨w2_21,e20,hF⟩:=z4 hF;exact lZ hF [.cell 2 31] [.agg w2_21] (rY e20 zc)
noncomputable def z82(call:z11)(v2:AV)(t60:List AV)(k83:AHeap→R)(self:Int→AHeap→R)(t61:Int)(h_131:AHeap):R:=
 lett (decide (t61<3)) fun (t62:Bool)=>
 ifB t62
 (
  outK (zc4 Try.prog h_131 99 (some (.agg t60)) (some (.int .i64 t61))) fun v63 h_138=>
  obind (z9 h_138 v2) fun v64=>
  callN (dynC Try.prog call v63 [] h_138) fun r66 h_142=>
  obind (z17 .i64 r66) fun t66=>
  chk (z6e Try.prog h_142 25 v2 v64&&true)<|
  obind (z34 v64) fun t67=>
  obind (z20 7 t67) fun t68=>
  obind (z27 h_142 1 [.int .i64 t66] t68) fun h_148=>
  obind (z9 h_148 v2) fun v69=>
  obind (z34 v69) fun t70=>
  obind (z20 7 t70) fun t71=>
  obind (z9 h_148 t71) fun v72=>
  obind (z17 .i64 v72) fun t72=>
  lett ((t72:Int) != 0) fun (t73:Bool)=>
  ifB t73
  (
   obind (z9 h_148 v2) fun v74=>
   obind (z34 v74) fun t75=>
   obind (z20 7 t75) fun t76=>
   obind (z9 h_148 t76) fun v77=>
   obind (z17 .i64 v77) fun t77=>
   some (.ret (.int .i64 t77),h_148))
  (
   lett (IntKind.i64.wrap (t61+1)) fun (t78:Int)=>
   self t78 h_148))
 (
  k83 h_131)
noncomputable def z4d(call:z11)(v2:AV)(t60:List AV)(k83:AHeap→R):Nat→Int→AHeap→R:=z130 (fun _ _=>none) (z82 call v2 t60 k83)
theorem ze8(call:z11)(v2:AV)(t60:List AV)(k83:AHeap→R)(m:Nat):z4d call v2 t60 k83 (m+1)=z82 call v2 t60 k83 (z4d call v2 t60 k83 m):=rfl
noncomputable def zb2(call:z11)(n:Nat)(t0:AV)(t1:List AV)(h:AHeap):R:=
 outK (zba h 25 (some t0)) fun v2 h_2=>
 outK (zba h_2 31 (some (.agg t1))) fun v3 h_4=>
 obind (z9 h_4 v2) fun v14=>
 obind (z2b h_4 2 v3) fun t15=>
 callN (call 31 [v14,.agg t15] h_4) fun r16 h_10=>
 obind (z17 .i64 r16) fun t16=>
 lett (fun (t27:Bool) (h_15:AHeap)=>
  ifB t27
  (
   some (.ret (.int .i64 t16),h_15))
  (
   obind (z9 h_15 v2) fun v29=>
   obind (z34 v29) fun t30=>
   obind (z20 3 t30) fun t31=>
   obind (z20 0 t31) fun t32=>
   obind (z9 h_15 t32) fun v33=>
   obind (z17 .i64 v33) fun t33=>
   lett (decide (t33≥4611686018427387904)) fun (t34:Bool)=>
   ifB t34
   (
    some (.ret (.int .i64 5),h_15))
   (
    obind (z9 h_15 v2) fun v35=>
    obind (z34 v35) fun t36=>
    obind (z20 3 t36) fun t37=>
    obind (z20 0 t37) fun t38=>
    obind (z9 h_15 t38) fun v39=>
    obind (z17 .i64 v39) fun t39=>
    lett (IntKind.i64.wrap (t39+1)) fun (t40:Int)=>
    obind (z2b h_15 2 v3) fun t41=>
    obind (z36d Try.prog 89 [(0,.int .i64 t40),(1,.agg t41)]) fun t42=>
    lett (newH h_15 89 [.int .i64 0,.int .i64 0,.int .i64 0]) fun h_37=>
    obind (z27 h_37 3 t42 (z1a h_15)) fun h_39=>
    obind (z2b h_39 3 (z1a h_15)) fun t44=>
    callN (call 32 [.agg t44] h_39) fun r45 h_43=>
    obind (z160 0 r45) fun v46=>
    obind (z31 v46) fun t46=>
    obind (z160 1 r45) fun v47=>
    obind (z17 .i64 v47) fun t47=>
    lett (newH h_43 9 [.str 0 0]) fun h_49=>
    obind (z27 h_49 1 [ze t46] (z1a h_43)) fun h_51=>
    lett ((t47:Int) != 0) fun (t49:Bool)=>
    ifB t49
    (
     some (.ret (.int .i64 t47),h_51))
    (
     obind (z9 h_51 v2) fun v52=>
     callN (call 33 [v52] h_51) fun r53 h_59=>
     obind (z160 0 r53) fun v54=>
     obind (z17 .i64 v54) fun t54=>
     obind (z160 1 r53) fun v55=>
     obind (z2f v55) fun t55=>
     lett (newH h_59 3 [.int .i64 0]) fun h_65=>
     lett (newH h_65 4 [.bool false]) fun h_67=>
     obind (z27 h_67 1 [.int .i64 t54] (z1a h_59)) fun h_69=>
     obind (z27 h_69 1 [.bool t55] (z1a h_65)) fun h_71=>
     obind (z36d Try.prog 99 [(0,(AV.fn 34 [] [(z1a h_65),v2,(z1a h_59)])),(1,(AV.fn 37 [] [v2,(z1a h_59),(z1a h_43)])),(2,(AV.fn 38 [] [v2,(z1a h_59)]))]) fun t59=>
     lett (newH h_71 99 [.nfn,.nfn,.nfn]) fun h_75=>
     obind (z27 h_75 3 t59 (z1a h_71)) fun h_77=>
     obind (z2b h_77 3 (z1a h_71)) fun t60=>
     lett (fun (h_84:AHeap)=>
      obind (z9 h_84 (z1a h_65)) fun v79=>
      obind (z2f v79) fun t79=>
      lett (fun (h_90:AHeap)=>
       obind (z9 h_90 v2) fun v85=>
       obind (z9 h_90 (z1a h_59)) fun v86=>
       obind (z17 .i64 v86) fun t86=>
       obind (z34 v85) fun t87=>
       obind (z20 1 t87) fun t88=>
       obind (z17b 2 1 t88 t86) fun t89=>
       obind (z9 h_90 t89) fun v90=>
       obind (z17 .i64 v90) fun t90=>
       lett (IntKind.i64.wrap (t90+1)) fun (t91:Int)=>
       obind (z34 v85) fun t92=>
       obind (z20 1 t92) fun t93=>
       obind (z17b 2 1 t93 t86) fun t94=>
       obind (z27 h_90 1 [.int .i64 t91] t94) fun h_104=>
       obind (z9 h_104 v2) fun v95=>
       obind (z9 h_104 v2) fun v96=>
       obind (z2b h_104 3 (z1a h_15)) fun t97=>
       obind (z9 h_104 (z1a h_59)) fun v98=>
       obind (z17 .i64 v98) fun t98=>
       obind (z34 v95) fun t99=>
       obind (z20 3 t99) fun t100=>
       obind (z27 h_104 3 t97 t100) fun h_114=>
       chk (z6e Try.prog h_114 3 (z1a h_59) (.int .i64 t98)&&(true&&(z6e Try.prog h_114 25 v2 v96&&(true&&true))))<|
       obind (z34 v96) fun t101=>
       obind (z20 6 t101) fun t102=>
       obind (z27 h_114 1 [.int .i64 t98] t102) fun h_119=>
       some (.ret (.int .i64 0),h_119)) fun k89=>
      ifB t79
      (
       obind (z9 h_84 v2) fun v80=>
       obind (z9 h_84 (z1a h_59)) fun v81=>
       obind (z17 .i64 v81) fun t81=>
       obind (z34 v80) fun t82=>
       obind (z20 1 t82) fun t83=>
       obind (z17b 2 1 t83 t81) fun t84=>
       obind (z27 h_84 1 [.int .i64 0] t84) fun h_128=>
       k89 h_128)
      (
       k89 h_84)) fun k83=>
     z4d call v2 t60 k83 n 0 h_77)))) fun k14=>
 lett ((t16:Int) != 0) fun (t18:Bool)=>
 ifB t18
 (
  k14 true h_10)
 (
  obind (z2b h_10 2 v3) fun t20=>
  obind (z9 h_10 v2) fun v21=>
  obind (z34 v21) fun t22=>
  obind (z20 3 t22) fun t23=>
  obind (z20 1 t23) fun t24=>
  obind (z2b h_10 2 t24) fun t25=>
  obind (zc7 Try.prog 31 (.agg t20) (.agg t25)) fun t26=>
  k14 t26 h_10)
set_option maxHeartbeats 4000000 in
set_option maxRecDepth 20000 in
theorem z252{call:z11}(hc:SaysAll Try.prog call){n:Nat}{t0:AV}{t1:List AV}{h:AHeap}{rR:ARes}{hR:AHeap}(hF:zb2 call n t0 t1 h=some (rR,hR)):Says Try.prog 11 [t0,.agg t1] h rR hR:=by
 unfold zb2 at hF;refine sO Try.func11 fun w0 m0=>?_;refine wW [(0,t0),(1,.agg t1)] ?_;refine oG fun n1=>W.r ?_;refine oK 2 hF fun v2 h_2 hF=>?_;refine oK 3 hF fun v3 h_4 hF=>?_;refine oA 4 (.int .i64 0) ?_;refine oV [(2,v2),(3,v3)] (n1 ?_);refine oH fun n6 q6=>?_;refine oG fun n7=>W.r ?_;refine oL 14 25 hF fun v14 hF=>?_;refine oR 15 31 hF fun t15 hF=>?_;refine oCi hc 16 hF fun t16 h_10 hF=>?_;refine oA 5 (.int .i64 t16) ?_;refine oV [(2,v2),(3,v3),(5,.int .i64 t16)] (n7 ?_);refine W.s (fun K13 n13 e13 q13 p13=>?_);obtain⟨k14,e14,hF⟩:=z7 hF
 have J14:∀(t27:Bool) (h_15:AHeap),k14 t27 h_15=some (rR,hR)→Go w0 m0 (Func.ntmps Try.f11) (K13 .normal) [(2,v2),(3,v3),(5,.int .i64 t16),(27,.bool t27)] [] h_15:=by
  intro t27 h_15 hF;rw[e14] at hF;refine n13 ?_
  cases t27 with
  |true=>
   refine oT hF fun hF=>?_;refine oG fun n16=>W.r ?_;refine oA 28 (.int .i64 t16) ?_;refine oA 4 (.int .i64 t16) ?_;refine oV [(4,.int .i64 t16)] (n16 (oY (q6 ?_)));exact lZ hF [.tmp 4] [.int .i64 t16] (rT zc)
  |false=>
   refine oU hF fun hF=>?_;refine oZ (n6 ?_);refine oH fun n17 q17=>?_;refine oG fun n18=>W.r ?_;refine oL 29 25 hF fun v29 hF=>?_;refine oC0 30 hF fun t30 hF=>?_;refine oF 31 92 2 hF fun t31 hF=>?_;refine oF 32 89 0 hF fun t32 hF=>?_;refine oLi 33 3 hF fun t33 hF=>?_;refine oB 34 hF fun t34 hF=>?_;refine oV [(2,v2),(3,v3),(34,.bool t34)] (n18 ?_)
   cases t34 with
   |true=>
    refine oT hF fun hF=>?_;refine oG fun n26=>W.r ?_;refine oA 4 (.int .i64 5) ?_;refine oV [(4,.int .i64 5)] (n26 (oY (q17 ?_)));exact lZ hF [.tmp 4] [.int .i64 5] (rT zc)
   |false=>
    refine oU hF fun hF=>?_;refine oZ (n17 ?_);refine oG fun n27=>?_;refine y12 (by kernel_rfl) (hc.ok w0) (plan:=[0,1,2,3,4,5,6,7,8,9]) (by kernel_rfl) (by kernel_rfl) (by kernel_rfl) ?_;obtain⟨v35,e28,hF⟩:=z4 hF;refine WD.b 1 (some 35) v35 h_15 (z12 (P:=Try.prog) (h:=h_15) (t:=25) (by kernel_rfl) e28) ?_;obtain⟨t36,e29,hF⟩:=z4 hF;refine WD.b 0 (some 36) t36 h_15 (z1f (h:=h_15) e29) ?_;obtain⟨t37,e30,hF⟩:=z4 hF;refine WD.b 0 (some 37) t37 h_15 (z10 (P:=Try.prog) (h:=h_15) (s:=92) (f:=2) (by kernel_rfl) e30) ?_;obtain⟨t38,e31,hF⟩:=z4 hF;refine WD.b 0 (some 38) t38 h_15 (z10 (P:=Try.prog) (h:=h_15) (s:=89) (f:=0) (by kernel_rfl) e31) ?_
    replace hF:=z4 hF;obtain⟨v39,e32,hF⟩:=hF
    replace hF:=z4 hF;obtain⟨t39,c33,hF⟩:=hF
    have c33:=z15 c33;subst c33;refine WD.b 1 (some 39) (.int .i64 t39) h_15 (z12 (P:=Try.prog) (h:=h_15) (t:=3) (by kernel_rfl) e32) ?_;obtain⟨t40,e34,hF⟩:=z7 hF;refine WD.val (d:=(some 40)) (v:=.int .i64 t40) (h':=h_15) (by kernel_rfl) (by kernel_rfl) (z2a (AV.int .i64) e34 (by kernel_rfl)) (k:=0) (by kernel_rfl) (fun e=>absurd e (by decide)) (by decide) ?_;obtain⟨t41,e35,hF⟩:=z4 hF;refine WD.b 1 (some 41) (.agg t41) h_15 (z36 (P:=Try.prog) (h:=h_15) (t:=31) (by kernel_rfl) (by kernel_rfl) e35) ?_;obtain⟨t42,e36,hF⟩:=z4 hF;refine WD.val (d:=(some 42)) (v:=.agg t42) (h':=h_15) (by kernel_rfl) (by kernel_rfl) (z1ac (by kernel_rfl) e36) (k:=0) (by kernel_rfl) (fun e=>absurd e (by decide)) (by decide) ?_;obtain⟨h_37,e38,hF⟩:=z7 hF;refine WD.val (d:=(some 6)) (v:=(z1a h_15)) (h':=h_37) (by kernel_rfl) (by kernel_rfl) (z333 e38 (by kernel_rfl)) (k:=1) (by kernel_rfl) (fun e=>absurd e (by decide)) (by decide) ?_;obtain⟨h_39,e40,hF⟩:=z4 hF;refine WD.eff (h':=h_39) (by kernel_rfl) (by kernel_rfl) (Eq.trans (by kernel_rfl) (z2c (P:=Try.prog) (h:=h_37) (t:=89) (v:=(.agg t42)) (by kernel_rfl) (by kernel_rfl) e40)) (k:=2) (by kernel_rfl) (fun _=>(by kernel_rfl)) (by decide) ?_;refine WD.nil ?_;refine gW [(2,v2),(6,(z1a h_15))] (n27 ?_);refine oG fun n41=>W.r ?_;refine oR 44 89 hF fun t44 hF=>?_;refine oC hc (some 45) hF fun r45 h_43 hF=>?_;refine oA 43 r45 ?_;refine oEs 46 hF fun t46 hF=>?_;refine oEi 47 hF fun t47 hF=>?_;refine oN 7 hF fun h_49 hF=>?_;refine oW 9 (ze t46) hF fun h_51 hF=>?_;refine oA 8 (.int .i64 t47) ?_;refine oV [(2,v2),(6,(z1a h_15)),(7,(z1a h_43)),(8,.int .i64 t47)] (n41 ?_);refine oH fun n53 q53=>?_;refine oG fun n54=>W.r ?_;refine oA 48 (.int .i64 t47) ?_;refine oB 49 hF fun t49 hF=>?_;refine oV [(2,v2),(6,(z1a h_15)),(7,(z1a h_43)),(8,.int .i64 t47),(49,.bool t49)] (n54 ?_)
    cases t49 with
    |true=>
     refine oT hF fun hF=>?_;refine oG fun n56=>W.r ?_;refine oA 50 (.int .i64 t47) ?_;refine oA 4 (.int .i64 t47) ?_;refine oV [(4,.int .i64 t47)] (n56 (oY (q53 ?_)));exact lZ hF [.tmp 4] [.int .i64 t47] (rT zc)
    |false=>
     refine oU hF fun hF=>?_;refine oZ (n53 ?_);refine oG fun n57=>W.r ?_;refine oL 52 25 hF fun v52 hF=>?_;refine oC hc (some 53) hF fun r53 h_59 hF=>?_;refine oA 51 r53 ?_;refine oEi 54 hF fun t54 hF=>?_;refine oEb 55 hF fun t55 hF=>?_;refine oN 9 hF fun h_65 hF=>?_;refine oN 10 hF fun h_67 hF=>?_;refine oW 3 (.int .i64 t54) hF fun h_69 hF=>?_;refine oW 4 (.bool t55) hF fun h_71 hF=>?_;refine oV [(2,v2),(6,(z1a h_15)),(7,(z1a h_43)),(9,(z1a h_59)),(10,(z1a h_65))] (n57 ?_);refine oG fun n73=>W.r ?_;refine oA 56 (AV.fn 34 [] [(z1a h_65),v2,(z1a h_59)]) ?_;refine oA 57 (AV.fn 37 [] [v2,(z1a h_59),(z1a h_43)]) ?_;refine oA 58 (AV.fn 38 [] [v2,(z1a h_59)]) ?_;obtain⟨t59,e74,hF⟩:=z4 hF;refine WL.val (d:=(some 59)) (v:=.agg t59) (h':=h_71) (by kernel_rfl) (by kernel_rfl) (z1ac (by kernel_rfl) e74) ?_;refine oN 11 hF fun h_75 hF=>?_;refine oW 99 (.agg t59) hF fun h_77 hF=>?_;refine oV [(2,v2),(6,(z1a h_15)),(9,(z1a h_59)),(10,(z1a h_65)),(11,(z1a h_71))] (n73 ?_);refine W.s (fun K79 n79 e79 q79 p79=>?_);refine oG fun n80=>W.r ?_;refine oR 60 99 hF fun t60 hF=>?_;refine oA 61 (.int .i64 0) ?_;refine oV [(2,v2),(6,(z1a h_15)),(9,(z1a h_59)),(10,(z1a h_65)),(60,.agg t60),(61,.int .i64 0)] (n80 ?_);obtain⟨k83,e83,hF⟩:=z7 hF
     have J83:∀(h_84:AHeap),k83 h_84=some (rR,hR)→Go w0 m0 (Func.ntmps Try.f11) (K79 .normal) [(2,v2),(6,(z1a h_15)),(9,(z1a h_59)),(10,(z1a h_65))] [] h_84:=by
      intro h_84 hF;rw[e83] at hF;refine n79 ?_;refine W.s (fun K85 n85 e85 q85 p85=>?_);refine oG fun n86=>W.r ?_;refine oLb 79 4 hF fun t79 hF=>?_;refine oV [(2,v2),(6,(z1a h_15)),(9,(z1a h_59)),(79,.bool t79)] (n86 ?_);obtain⟨k89,e89,hF⟩:=z7 hF
      have J89:∀(h_90:AHeap),k89 h_90=some (rR,hR)→Go w0 m0 (Func.ntmps Try.f11) (K85 .normal) [(2,v2),(6,(z1a h_15)),(9,(z1a h_59))] [] h_90:=by
       intro h_90 hF;rw[e89] at hF;refine n85 ?_;refine oG fun n91=>?_;refine y12 (by kernel_rfl) (hc.ok w0) (plan:=[0,1,2,3,4,5,6,7,8,9,10]) (by kernel_rfl) (by kernel_rfl) (by kernel_rfl) ?_;obtain⟨v85,e92,hF⟩:=z4 hF;refine WD.b 1 (some 85) v85 h_90 (z12 (P:=Try.prog) (h:=h_90) (t:=25) (by kernel_rfl) e92) ?_
       replace hF:=z4 hF;obtain⟨v86,e93,hF⟩:=hF
       replace hF:=z4 hF;obtain⟨t86,c94,hF⟩:=hF
       have c94:=z15 c94;subst c94;refine WD.b 1 (some 86) (.int .i64 t86) h_90 (z12 (P:=Try.prog) (h:=h_90) (t:=3) (by kernel_rfl) e93) ?_;obtain⟨t87,e95,hF⟩:=z4 hF;refine WD.b 0 (some 87) t87 h_90 (z1f (h:=h_90) e95) ?_;obtain⟨t88,e96,hF⟩:=z4 hF;refine WD.b 0 (some 88) t88 h_90 (z10 (P:=Try.prog) (h:=h_90) (s:=92) (f:=1) (by kernel_rfl) e96) ?_;obtain⟨t89,e97,hF⟩:=z4 hF;refine WD.b 0 (some 89) t89 h_90 (z99 (P:=Try.prog) (h:=h_90) (t:=90) (e':=3) (k:=.i64) (by kernel_rfl) (by kernel_rfl) (by kernel_rfl) e97) ?_
       replace hF:=z4 hF;obtain⟨v90,e98,hF⟩:=hF
       replace hF:=z4 hF;obtain⟨t90,c99,hF⟩:=hF
       have c99:=z15 c99;subst c99;refine WD.b 1 (some 90) (.int .i64 t90) h_90 (z12 (P:=Try.prog) (h:=h_90) (t:=3) (by kernel_rfl) e98) ?_;obtain⟨t91,e100,hF⟩:=z7 hF;refine WD.val (d:=(some 91)) (v:=.int .i64 t91) (h':=h_90) (by kernel_rfl) (by kernel_rfl) (z2a (AV.int .i64) e100 (by kernel_rfl)) (k:=0) (by kernel_rfl) (fun e=>absurd e (by decide)) (by decide) ?_;obtain⟨t92,e101,hF⟩:=z4 hF;refine WD.b 0 (some 92) t92 h_90 (z1f (h:=h_90) e101) ?_;obtain⟨t93,e102,hF⟩:=z4 hF;refine WD.b 0 (some 93) t93 h_90 (z10 (P:=Try.prog) (h:=h_90) (s:=92) (f:=1) (by kernel_rfl) e102) ?_;obtain⟨t94,e103,hF⟩:=z4 hF;refine WD.b 0 (some 94) t94 h_90 (z99 (P:=Try.prog) (h:=h_90) (t:=90) (e':=3) (k:=.i64) (by kernel_rfl) (by kernel_rfl) (by kernel_rfl) e103) ?_;obtain⟨h_104,e105,hF⟩:=z4 hF;refine WD.eff (h':=h_104) (by kernel_rfl) (by kernel_rfl) (Eq.trans (by kernel_rfl) (z2c (P:=Try.prog) (h:=h_90) (t:=3) (v:=(.int .i64 t91)) (by kernel_rfl) (by kernel_rfl) e105)) (k:=2) (by kernel_rfl) (fun _=>(by kernel_rfl)) (by decide) ?_;refine WD.nil ?_;refine gW [(2,v2),(6,(z1a h_15)),(9,(z1a h_59))] (n91 ?_);refine oG fun n106=>?_;refine y12 (by kernel_rfl) (hc.ok w0) (plan:=[0,1,2,3,4,5,6,7,8,9]) (by kernel_rfl) (by kernel_rfl) (by kernel_rfl) ?_;obtain⟨v95,e107,hF⟩:=z4 hF;refine WD.b 1 (some 95) v95 h_104 (z12 (P:=Try.prog) (h:=h_104) (t:=25) (by kernel_rfl) e107) ?_;obtain⟨v96,e108,hF⟩:=z4 hF;refine WD.b 1 (some 96) v96 h_104 (z12 (P:=Try.prog) (h:=h_104) (t:=25) (by kernel_rfl) e108) ?_;obtain⟨t97,e109,hF⟩:=z4 hF;refine WD.b 1 (some 97) (.agg t97) h_104 (z36 (P:=Try.prog) (h:=h_104) (t:=89) (by kernel_rfl) (by kernel_rfl) e109) ?_
       replace hF:=z4 hF;obtain⟨v98,e110,hF⟩:=hF
       replace hF:=z4 hF;obtain⟨t98,c111,hF⟩:=hF
       have c111:=z15 c111;subst c111;refine WD.b 1 (some 98) (.int .i64 t98) h_104 (z12 (P:=Try.prog) (h:=h_104) (t:=3) (by kernel_rfl) e110) ?_;obtain⟨t99,e112,hF⟩:=z4 hF;refine WD.b 0 (some 99) t99 h_104 (z1f (h:=h_104) e112) ?_;obtain⟨t100,e113,hF⟩:=z4 hF;refine WD.b 0 (some 100) t100 h_104 (z10 (P:=Try.prog) (h:=h_104) (s:=92) (f:=2) (by kernel_rfl) e113) ?_;obtain⟨h_114,e115,hF⟩:=z4 hF;obtain⟨k116,hF⟩:=z8a hF;refine WD.eff (h':=h_114) (by kernel_rfl) (by kernel_rfl) (Eq.trans (by kernel_rfl) (z2c (P:=Try.prog) (h:=h_104) (t:=89) (v:=(.agg t97)) (by kernel_rfl) (by kernel_rfl) e115)) (k:=2) (by kernel_rfl) (fun _=>(Eq.trans (by kernel_rfl) k116)) (by decide) ?_;obtain⟨t101,e117,hF⟩:=z4 hF;refine WD.b 0 (some 101) t101 h_114 (z1f (h:=h_114) e117) ?_;obtain⟨t102,e118,hF⟩:=z4 hF;refine WD.b 0 (some 102) t102 h_114 (z10 (P:=Try.prog) (h:=h_114) (s:=92) (f:=3) (by kernel_rfl) e118) ?_;obtain⟨h_119,e120,hF⟩:=z4 hF;refine WD.eff (h':=h_119) (by kernel_rfl) (by kernel_rfl) (Eq.trans (by kernel_rfl) (z2c (P:=Try.prog) (h:=h_114) (t:=3) (v:=(.int .i64 t98)) (by kernel_rfl) (by kernel_rfl) e120)) (k:=2) (by kernel_rfl) (fun _=>(by kernel_rfl)) (by decide) ?_;refine WD.nil ?_;refine gW [] (n106 ?_);refine oG fun n121=>W.r ?_;refine oA 4 (.int .i64 0) ?_;refine oV [(4,.int .i64 0)] (n121 (oY ?_));exact lZ hF [.tmp 4] [.int .i64 0] (rT zc)
      cases t79 with
      |true=>
       refine oT hF fun hF=>?_;refine y12 (by kernel_rfl) (hc.ok w0) (plan:=[0,1,2,3,4,5]) (by kernel_rfl) (by kernel_rfl) (by kernel_rfl) ?_;obtain⟨v80,e122,hF⟩:=z4 hF;refine WD.b 1 (some 80) v80 h_84 (z12 (P:=Try.prog) (h:=h_84) (t:=25) (by kernel_rfl) e122) ?_
       replace hF:=z4 hF;obtain⟨v81,e123,hF⟩:=hF
       replace hF:=z4 hF;obtain⟨t81,c124,hF⟩:=hF
       have c124:=z15 c124;subst c124;refine WD.b 1 (some 81) (.int .i64 t81) h_84 (z12 (P:=Try.prog) (h:=h_84) (t:=3) (by kernel_rfl) e123) ?_;obtain⟨t82,e125,hF⟩:=z4 hF;refine WD.b 0 (some 82) t82 h_84 (z1f (h:=h_84) e125) ?_;obtain⟨t83,e126,hF⟩:=z4 hF;refine WD.b 0 (some 83) t83 h_84 (z10 (P:=Try.prog) (h:=h_84) (s:=92) (f:=1) (by kernel_rfl) e126) ?_;obtain⟨t84,e127,hF⟩:=z4 hF;refine WD.b 0 (some 84) t84 h_84 (z99 (P:=Try.prog) (h:=h_84) (t:=90) (e':=3) (k:=.i64) (by kernel_rfl) (by kernel_rfl) (by kernel_rfl) e127) ?_;obtain⟨h_128,e129,hF⟩:=z4 hF;refine WD.eff (h':=h_128) (by kernel_rfl) (by kernel_rfl) (Eq.trans (by kernel_rfl) (z2c (P:=Try.prog) (h:=h_84) (t:=3) (v:=(.int .i64 0)) (by kernel_rfl) (by kernel_rfl) e129)) (k:=2) (by kernel_rfl) (fun _=>(by kernel_rfl)) (by decide) ?_;refine WD.nil ?_;refine gW [(2,v2),(6,(z1a h_15)),(9,(z1a h_59))] ?_;exact gW _ (J89 _ hF)
      |false=>
       refine oU hF fun hF=>?_;refine oZ ?_;exact gW _ (J89 _ hF)
     refine W.blockK (by kernel_rfl) (fun K82 n82 s82 o82 q82 p82=>?_);refine W.loopK (by kernel_rfl) (fun I130 K130 b130 n130 e130 q130 p130=>?_)
     have L130:∀(m:Nat) (t61:Int) (h_131:AHeap),z4d call v2 t60 k83 m t61 h_131=some (rR,hR)→Go w0 m0 (Func.ntmps Try.f11) I130 [(2,v2),(6,(z1a h_15)),(9,(z1a h_59)),(10,(z1a h_65)),(60,.agg t60),(61,.int .i64 t61)] [] h_131:=by
      intro m
      induction m with
      |zero=>intro t61 h_131 hF;cases hF
      |succ m ih130=>
       intro t61 h_131 hF;rw[ze8] at hF;unfold z82 at hF;refine b130 ?_;refine oG fun n132=>W.r ?_;refine oB 62 hF fun t62 hF=>?_;refine oV [(2,v2),(6,(z1a h_15)),(9,(z1a h_59)),(10,(z1a h_65)),(60,.agg t60),(61,.int .i64 t61),(62,.bool t62)] (n132 ?_);refine W.s (fun K134 n134 e134 q134 p134=>?_)
       cases t62 with
       |true=>
        refine oT hF fun hF=>?_;refine oZ (n134 ?_);refine oH fun n135 q135=>?_;refine W.blockK (by kernel_rfl) (fun K136 n136 s136 o136 q136 p136=>?_);refine oG fun n137=>W.r ?_;refine oK 63 hF fun v63 h_138 hF=>?_;refine oA 13 v63 ?_;refine oV [(2,v2),(6,(z1a h_15)),(9,(z1a h_59)),(10,(z1a h_65)),(13,v63),(60,.agg t60),(61,.int .i64 t61)] (n137 ?_);refine oG fun n140=>?_;refine y12 (by kernel_rfl) (hc.ok w0) (plan:=[0,1,2,3,4,5]) (by kernel_rfl) (by kernel_rfl) (by kernel_rfl) ?_;obtain⟨v64,e141,hF⟩:=z4 hF;refine WD.b 1 (some 64) v64 h_138 (z12 (P:=Try.prog) (h:=h_138) (t:=25) (by kernel_rfl) e141) ?_;refine WD.a 0 (some 65) v63 h_138 ?_
        replace hF:=z18 hF;obtain⟨r66,h_142,e143,hF⟩:=hF
        replace hF:=z4 hF;obtain⟨t66,c144,hF⟩:=hF
        have c144:=z15 c144;subst c144;obtain⟨k145,hF⟩:=z8a hF;refine WD.dyn (d:=(some 66)) (by kernel_rfl) (by kernel_rfl) (by kernel_rfl) e143 (k:=2) (by kernel_rfl) (fun _=>(Eq.trans (by kernel_rfl) k145)) (by decide) ?_;obtain⟨t67,e146,hF⟩:=z4 hF;refine WD.b 0 (some 67) t67 h_142 (z1f (h:=h_142) e146) ?_;obtain⟨t68,e147,hF⟩:=z4 hF;refine WD.b 0 (some 68) t68 h_142 (z10 (P:=Try.prog) (h:=h_142) (s:=92) (f:=4) (by kernel_rfl) e147) ?_;obtain⟨h_148,e149,hF⟩:=z4 hF;refine WD.eff (h':=h_148) (by kernel_rfl) (by kernel_rfl) (Eq.trans (by kernel_rfl) (z2c (P:=Try.prog) (h:=h_142) (t:=26) (v:=(.int .i64 t66)) (by kernel_rfl) (by kernel_rfl) e149)) (k:=2) (by kernel_rfl) (fun _=>(by kernel_rfl)) (by decide) ?_;refine WD.nil ?_;refine gW [(2,v2),(6,(z1a h_15)),(9,(z1a h_59)),(10,(z1a h_65)),(60,.agg t60),(61,.int .i64 t61)] (n140 ?_);refine oG fun n150=>W.r ?_;refine oL 69 25 hF fun v69 hF=>?_;refine oC0 70 hF fun t70 hF=>?_;refine oF 71 92 4 hF fun t71 hF=>?_;refine oLi 72 26 hF fun t72 hF=>?_;refine oB 73 hF fun t73 hF=>?_;refine oV [(2,v2),(6,(z1a h_15)),(9,(z1a h_59)),(10,(z1a h_65)),(60,.agg t60),(61,.int .i64 t61),(73,.bool t73)] (n150 ?_)
        cases t73 with
        |true=>
         refine oT hF fun hF=>?_;refine oG fun n157=>W.r ?_;refine oL 74 25 hF fun v74 hF=>?_;refine oC0 75 hF fun t75 hF=>?_;refine oF 76 92 4 hF fun t76 hF=>?_;refine oLi 77 26 hF fun t77 hF=>?_;refine oA 4 (.int .i64 t77) ?_;refine oV [(4,.int .i64 t77)] (n157 (oY (q136 (q135 (q130 (q82 (q79 ?_)))))));exact lZ hF [.tmp 4] [.int .i64 t77] (rT zc)
        |false=>
         refine oU hF fun hF=>?_;refine oZ (n136 (n135 (W.r ?_)));refine oI 78 .i64 hF fun t78 hF=>?_;refine oA 61 (.int .i64 t78) ?_;refine oV [(2,v2),(6,(z1a h_15)),(9,(z1a h_59)),(10,(z1a h_65)),(60,.agg t60),(61,.int .i64 t78)] (n130 ?_);exact gW _ (ih130 _ _ hF)
       |false=>
        refine oU hF fun hF=>?_;refine W.exit (by kernel_rfl) ?_;refine e134 (e130 ?_);refine s82 (by kernel_rfl) ?_;exact gW _ (J83 _ hF)
     exact gW _ (L130 _ _ _ hF)
 refine y12 (by kernel_rfl) (hc.ok w0) (plan:=[0,1,2,3,4,5,6,7,8,9,10]) (by kernel_rfl) (by kernel_rfl) (by kernel_rfl) ?_;refine WD.a 0 (some 17) (.int .i64 t16) h_10 ?_;obtain⟨t18,e164,hF⟩:=z7 hF;refine WD.val (d:=(some 18)) (v:=.bool t18) (h':=h_10) (by kernel_rfl) (by kernel_rfl) (z2a AV.bool e164 (by kernel_rfl)) (k:=0) (by kernel_rfl) (fun e=>absurd e (by decide)) (by decide) ?_;refine WD.a 0 (some 19) (.bool t18) h_10 ?_
 cases t18 with
 |true=>
  replace hF:=z53 hF
  refine oD 1 (some 20) ?_;refine oD 1 (some 21) ?_;refine oD 0 (some 22) ?_;refine oD 0 (some 23) ?_;refine oD 0 (some 24) ?_;refine oD 1 (some 25) ?_;refine oD 0 (some 26) ?_;refine WD.a 0 (some 27) (.bool true) h_10 ?_;refine WD.nil ?_;exact gW _ (J14 _ _ hF)
 |false=>
  replace hF:=z54 hF
  obtain⟨t20,e165,hF⟩:=z4 hF;refine WD.b 1 (some 20) (.agg t20) h_10 (z36 (P:=Try.prog) (h:=h_10) (t:=31) (by kernel_rfl) (by kernel_rfl) e165) ?_;obtain⟨v21,e166,hF⟩:=z4 hF;refine WD.b 1 (some 21) v21 h_10 (z12 (P:=Try.prog) (h:=h_10) (t:=25) (by kernel_rfl) e166) ?_;obtain⟨t22,e167,hF⟩:=z4 hF;refine WD.b 0 (some 22) t22 h_10 (z1f (h:=h_10) e167) ?_;obtain⟨t23,e168,hF⟩:=z4 hF;refine WD.b 0 (some 23) t23 h_10 (z10 (P:=Try.prog) (h:=h_10) (s:=92) (f:=2) (by kernel_rfl) e168) ?_;obtain⟨t24,e169,hF⟩:=z4 hF;refine WD.b 0 (some 24) t24 h_10 (z10 (P:=Try.prog) (h:=h_10) (s:=89) (f:=1) (by kernel_rfl) e169) ?_;obtain⟨t25,e170,hF⟩:=z4 hF;refine WD.b 1 (some 25) (.agg t25) h_10 (z36 (P:=Try.prog) (h:=h_10) (t:=31) (by kernel_rfl) (by kernel_rfl) e170) ?_;obtain⟨t26,e171,hF⟩:=z4 hF;refine WD.b 0 (some 26) (.bool t26) h_10 (z35e (P:=Try.prog) (h:=h_10) (t:=31) (lit:=false) (by kernel_rfl) e171) ?_;refine WD.a 0 (some 27) (.bool t26) h_10 ?_;refine WD.nil ?_;exact gW _ (J14 _ _ hF)
noncomputable def z79(call:z11)(_:Nat)(t0:AV)(t1:List AV)(h:AHeap):R:=outK (zba h 31 (some (.agg t1))) fun v3 h_2=>outK (z65 Try.prog h_2 .eql 25 true (some t0) (some AV.nilp)) fun v7 h_6=>obind (z2f v7) fun t7=>ifB t7 (some (.ret (.int .i64 1),h_6)) (obind (z34 t0) fun t9=>obind (z20 7 t9) fun t10=>obind (z9 h_6 t10) fun v11=>obind (z17 .i64 v11) fun t11=>lett ((t11:Int) != 0) fun (t12:Bool)=>ifB t12 (obind (z34 t0) fun t14=>obind (z20 7 t14) fun t15=>obind (z9 h_6 t15) fun v16=>obind (z17 .i64 v16) fun t16=>some (.ret (.int .i64 t16),h_6)) (obind (z2b h_6 2 v3) fun t17=>callN (call 17 [.agg t17] h_6) fun r18 h_25=>obind (z17 .i64 r18) fun t18=>lett ((t18:Int) != 0) fun (t20:Bool)=>ifB t20 (some (.ret (.int .i64 t18),h_25)) (obind (z2b h_25 2 v3) fun t22=>obind (z34 t0) fun t24=>obind (z20 3 t24) fun t25=>obind (z20 1 t25) fun t26=>obind (z2b h_25 2 t26) fun t27=>callN (call 56 [.agg t22,.agg t27] h_25) fun r28 h_38=>obind (z2f r28) fun t28=>lett (!t28) fun (t29:Bool)=>ifB t29 (some (.ret (.int .i64 5),h_38)) (some (.ret (.int .i64 0),h_38)))))
set_option maxHeartbeats 4000000 in
set_option maxRecDepth 20000 in
theorem z1de{call:z11}(hc:SaysAll Try.prog call){n:Nat}{t0:AV}{t1:List AV}{h:AHeap}{rR:ARes}{hR:AHeap}(hF:z79 call n t0 t1 h=some (rR,hR)):Says Try.prog 31 [t0,.agg t1] h rR hR:=by
 unfold z79 at hF;refine sO Try.func31 fun w0 m0=>?_;refine wW [(0,t0),(1,.agg t1)] ?_;refine oG fun n1=>W.r ?_;refine oK 3 hF fun v3 h_2 hF=>?_;refine oA 4 (.int .i64 0) ?_;refine oV [(0,t0),(3,v3)] (n1 ?_);refine oH fun n4 q4=>?_;refine oG fun n5=>W.r ?_;refine oA 6 t0 ?_
 replace hF:=z26 hF;obtain⟨v7,h_6,e7,hF⟩:=hF
 replace hF:=z4 hF;obtain⟨t7,c8,hF⟩:=hF
 have c8:=z1e c8;subst c8;refine WL.b (some 7) (.bool t7) h_6 e7 ?_;refine oV [(0,t0),(3,v3),(7,.bool t7)] (n5 ?_)
 cases t7 with
 |true=>
  refine oT hF fun hF=>?_;refine oG fun n9=>W.r ?_;refine oA 4 (.int .i64 1) ?_;refine oV [(4,.int .i64 1)] (n9 (oY (q4 ?_)));exact lZ hF [.tmp 4] [.int .i64 1] (rT zc)
 |false=>
  refine oU hF fun hF=>?_;refine oZ (n4 ?_);refine oH fun n10 q10=>?_;refine oG fun n11=>W.r ?_;refine oA 8 t0 ?_;refine oC0 9 hF fun t9 hF=>?_;refine oF 10 92 4 hF fun t10 hF=>?_;refine oLi 11 26 hF fun t11 hF=>?_;refine oB 12 hF fun t12 hF=>?_;refine oV [(0,t0),(3,v3),(12,.bool t12)] (n11 ?_)
  cases t12 with
  |true=>
   refine oT hF fun hF=>?_;refine oG fun n17=>W.r ?_;refine oA 13 t0 ?_;refine oC0 14 hF fun t14 hF=>?_;refine oF 15 92 4 hF fun t15 hF=>?_;refine oLi 16 26 hF fun t16 hF=>?_;refine oA 4 (.int .i64 t16) ?_;refine oV [(4,.int .i64 t16)] (n17 (oY (q10 ?_)));exact lZ hF [.tmp 4] [.int .i64 t16] (rT zc)
  |false=>
   refine oU hF fun hF=>?_;refine oZ (n10 ?_);refine oH fun n22 q22=>?_;refine oG fun n23=>W.r ?_;refine oR 17 31 hF fun t17 hF=>?_;refine oCi hc 18 hF fun t18 h_25 hF=>?_;refine oA 5 (.int .i64 t18) ?_;refine oV [(0,t0),(3,v3),(5,.int .i64 t18)] (n23 ?_);refine oG fun n28=>W.r ?_;refine oA 19 (.int .i64 t18) ?_;refine oB 20 hF fun t20 hF=>?_;refine oV [(0,t0),(3,v3),(5,.int .i64 t18),(20,.bool t20)] (n28 ?_)
   cases t20 with
   |true=>
    refine oT hF fun hF=>?_;refine oG fun n30=>W.r ?_;refine oA 21 (.int .i64 t18) ?_;refine oA 4 (.int .i64 t18) ?_;refine oV [(4,.int .i64 t18)] (n30 (oY (q22 ?_)));exact lZ hF [.tmp 4] [.int .i64 t18] (rT zc)
   |false=>
    refine oU hF fun hF=>?_;refine oZ (n22 ?_);refine oH fun n31 q31=>?_;refine oG fun n32=>?_;refine y12 (by kernel_rfl) (hc.ok w0) (plan:=[0,1,2,3,4,5,6,7]) (by kernel_rfl) (by kernel_rfl) (by kernel_rfl) ?_;obtain⟨t22,e33,hF⟩:=z4 hF;refine WD.b 1 (some 22) (.agg t22) h_25 (z36 (P:=Try.prog) (h:=h_25) (t:=31) (by kernel_rfl) (by kernel_rfl) e33) ?_;refine WD.a 0 (some 23) t0 h_25 ?_;obtain⟨t24,e34,hF⟩:=z4 hF;refine WD.b 0 (some 24) t24 h_25 (z1f (h:=h_25) e34) ?_;obtain⟨t25,e35,hF⟩:=z4 hF;refine WD.b 0 (some 25) t25 h_25 (z10 (P:=Try.prog) (h:=h_25) (s:=92) (f:=2) (by kernel_rfl) e35) ?_;obtain⟨t26,e36,hF⟩:=z4 hF;refine WD.b 0 (some 26) t26 h_25 (z10 (P:=Try.prog) (h:=h_25) (s:=89) (f:=1) (by kernel_rfl) e36) ?_;obtain⟨t27,e37,hF⟩:=z4 hF;refine WD.b 1 (some 27) (.agg t27) h_25 (z36 (P:=Try.prog) (h:=h_25) (t:=31) (by kernel_rfl) (by kernel_rfl) e37) ?_
    replace hF:=z18 hF;obtain⟨r28,h_38,e39,hF⟩:=hF
    replace hF:=z4 hF;obtain⟨t28,c40,hF⟩:=hF
    have c40:=z1e c40;subst c40;refine WD.call (d:=(some 28)) (by kernel_rfl) (by kernel_rfl) (by kernel_rfl) e39 (k:=2) (by kernel_rfl) (fun _=>(by kernel_rfl)) (by decide) ?_;obtain⟨t29,e41,hF⟩:=z7 hF;refine WD.val (d:=(some 29)) (v:=.bool t29) (h':=h_38) (by kernel_rfl) (by kernel_rfl) (z2a AV.bool e41 (by kernel_rfl)) (k:=0) (by kernel_rfl) (fun e=>absurd e (by decide)) (by decide) ?_;refine WD.nil ?_;refine gW [(29,.bool t29)] (n32 ?_)
    cases t29 with
    |true=>
     refine oT hF fun hF=>?_;refine oG fun n42=>W.r ?_;refine oA 4 (.int .i64 5) ?_;refine oV [(4,.int .i64 5)] (n42 (oY (q31 ?_)));exact lZ hF [.tmp 4] [.int .i64 5] (rT zc)
    |false=>
     refine oU hF fun hF=>?_;refine oZ (n31 ?_);refine oG fun n43=>W.r ?_;refine oA 4 (.int .i64 0) ?_;refine oV [(4,.int .i64 0)] (n43 (oY ?_));exact lZ hF [.tmp 4] [.int .i64 0] (rT zc)
noncomputable def zb1(_:z11)(_:Nat)(t0:AV)(h:AHeap):R:=obind (z34 t0) fun t6=>obind (z20 3 t6) fun t7=>obind (z20 0 t7) fun t8=>obind (z9 h t8) fun v9=>obind (z17 .i64 v9) fun t9=>lett ((t9:Int) == 0) fun (t10:Bool)=>ifB t10 (some (.ret (.tup [.int .i64 0,.bool true]),h)) (obind (z34 t0) fun t14=>obind (z20 6 t14) fun t15=>obind (z9 h t15) fun v16=>obind (z17 .i64 v16) fun t16=>obind (z34 t0) fun t17=>obind (z20 1 t17) fun t18=>obind (z17b 2 1 t18 t16) fun t19=>obind (z9 h t19) fun v20=>obind (z17 .i64 v20) fun t20=>lett (decide (t20<8)) fun (t21:Bool)=>ifB t21 (obind (z34 t0) fun t23=>obind (z20 6 t23) fun t24=>obind (z9 h t24) fun v25=>obind (z17 .i64 v25) fun t25=>some (.ret (.tup [.int .i64 t25,.bool false]),h)) (obind (z34 t0) fun t28=>obind (z20 6 t28) fun t29=>obind (z9 h t29) fun v30=>obind (z17 .i64 v30) fun t30=>lett ((t30:Int) == 0) fun (t31:Bool)=>ifB t31 (some (.ret (.tup [.int .i64 1,.bool true]),h)) (some (.ret (.tup [.int .i64 0,.bool true]),h))))
set_option maxHeartbeats 4000000 in
set_option maxRecDepth 20000 in
theorem z251{call:z11}(hc:SaysAll Try.prog call){n:Nat}{t0:AV}{h:AHeap}{rR:ARes}{hR:AHeap}(hF:zb1 call n t0 h=some (rR,hR)):Says Try.prog 33 [t0] h rR hR:=by
 unfold zb1 at hF;refine sO Try.func33 fun w0 m0=>?_;refine wW [(0,t0)] ?_;refine oG fun n1=>W.r ?_;refine oA 2 (.int .i64 0) ?_;refine oA 3 (.bool false) ?_;refine oV [(0,t0)] (n1 ?_);refine oH fun n2 q2=>?_;refine W.blockK (by kernel_rfl) (fun K3 n3 s3 o3 q3 p3=>?_);refine oG fun n4=>W.r ?_;refine oA 5 t0 ?_;refine oC0 6 hF fun t6 hF=>?_;refine oF 7 92 2 hF fun t7 hF=>?_;refine oF 8 89 0 hF fun t8 hF=>?_;refine oLi 9 3 hF fun t9 hF=>?_;refine oB 10 hF fun t10 hF=>?_;refine oA 4 (.bool t10) ?_;refine oV [(0,t0),(4,.bool t10)] (n4 ?_)
 cases t10 with
 |true=>
  refine oT hF fun hF=>?_;refine oG fun n11=>W.r ?_;refine oA 2 (.int .i64 0) ?_;refine oA 3 (.bool true) ?_;refine oV [(2,.int .i64 0),(3,.bool true)] (n11 (oY (q3 (q2 ?_))));exact lZ hF [.tmp 2,.tmp 3] [.int .i64 0,.bool true] (rT (rT zc))
 |false=>
  refine oU hF fun hF=>?_;refine oG fun n12=>?_;refine y12 (by kernel_rfl) (hc.ok w0) (plan:=[0,1,2,3,4,5,6,7,8,9,10]) (by kernel_rfl) (by kernel_rfl) (by kernel_rfl) ?_;refine WD.a 0 (some 12) t0 h ?_;refine WD.a 0 (some 13) t0 h ?_;obtain⟨t14,e13,hF⟩:=z4 hF;refine WD.b 0 (some 14) t14 h (z1f (h:=h) e13) ?_;obtain⟨t15,e14,hF⟩:=z4 hF;refine WD.b 0 (some 15) t15 h (z10 (P:=Try.prog) (h:=h) (s:=92) (f:=3) (by kernel_rfl) e14) ?_
  replace hF:=z4 hF;obtain⟨v16,e15,hF⟩:=hF
  replace hF:=z4 hF;obtain⟨t16,c16,hF⟩:=hF
  have c16:=z15 c16;subst c16;refine WD.b 1 (some 16) (.int .i64 t16) h (z12 (P:=Try.prog) (h:=h) (t:=3) (by kernel_rfl) e15) ?_;obtain⟨t17,e17,hF⟩:=z4 hF;refine WD.b 0 (some 17) t17 h (z1f (h:=h) e17) ?_;obtain⟨t18,e18,hF⟩:=z4 hF;refine WD.b 0 (some 18) t18 h (z10 (P:=Try.prog) (h:=h) (s:=92) (f:=1) (by kernel_rfl) e18) ?_;obtain⟨t19,e19,hF⟩:=z4 hF;refine WD.b 0 (some 19) t19 h (z99 (P:=Try.prog) (h:=h) (t:=90) (e':=3) (k:=.i64) (by kernel_rfl) (by kernel_rfl) (by kernel_rfl) e19) ?_
  replace hF:=z4 hF;obtain⟨v20,e20,hF⟩:=hF
  replace hF:=z4 hF;obtain⟨t20,c21,hF⟩:=hF
  have c21:=z15 c21;subst c21;refine WD.b 1 (some 20) (.int .i64 t20) h (z12 (P:=Try.prog) (h:=h) (t:=3) (by kernel_rfl) e20) ?_;obtain⟨t21,e22,hF⟩:=z7 hF;refine WD.val (d:=(some 21)) (v:=.bool t21) (h':=h) (by kernel_rfl) (by kernel_rfl) (z2a AV.bool e22 (by kernel_rfl)) (k:=0) (by kernel_rfl) (fun e=>absurd e (by decide)) (by decide) ?_;refine WD.a 0 (some 11) (.bool t21) h ?_;refine WD.nil ?_;refine gW [(0,t0),(11,.bool t21)] (n12 ?_)
  cases t21 with
  |true=>
   refine oT hF fun hF=>?_;refine oG fun n23=>W.r ?_;refine oA 22 t0 ?_;refine oC0 23 hF fun t23 hF=>?_;refine oF 24 92 3 hF fun t24 hF=>?_;refine oLi 25 3 hF fun t25 hF=>?_;refine oA 2 (.int .i64 t25) ?_;refine oA 3 (.bool false) ?_;refine oV [(2,.int .i64 t25),(3,.bool false)] (n23 (oY (q3 (q2 ?_))));exact lZ hF [.tmp 2,.tmp 3] [.int .i64 t25,.bool false] (rT (rT zc))
  |false=>
   refine oU hF fun hF=>?_;refine oG fun n28=>W.r ?_;refine oA 27 t0 ?_;refine oC0 28 hF fun t28 hF=>?_;refine oF 29 92 3 hF fun t29 hF=>?_;refine oLi 30 3 hF fun t30 hF=>?_;refine oB 31 hF fun t31 hF=>?_;refine oA 26 (.bool t31) ?_;refine oV [(26,.bool t31)] (n28 ?_)
   cases t31 with
   |true=>
    refine oT hF fun hF=>?_;refine oG fun n34=>W.r ?_;refine oA 2 (.int .i64 1) ?_;refine oA 3 (.bool true) ?_;refine oV [(2,.int .i64 1),(3,.bool true)] (n34 (oY (q3 (q2 ?_))));exact lZ hF [.tmp 2,.tmp 3] [.int .i64 1,.bool true] (rT (rT zc))
   |false=>
    refine oU hF fun hF=>?_;refine oZ (n3 (n2 ?_));refine oG fun n35=>W.r ?_;refine oA 2 (.int .i64 0) ?_;refine oA 3 (.bool true) ?_;refine oV [(2,.int .i64 0),(3,.bool true)] (n35 (oY ?_));exact lZ hF [.tmp 2,.tmp 3] [.int .i64 0,.bool true] (rT (rT zc))
noncomputable def z78(call:z11)(_:Nat)(t0:List AV)(h:AHeap):R:=
 outK (zba h 89 (some (.agg t0))) fun v1 h_2=>
 obind (z20 0 v1) fun t4=>
 obind (z9 h_2 t4) fun v5=>
 obind (z17 .i64 v5) fun t5=>
 lett (IntKind.u64.wrap t5) fun (t6:Int)=>
 obind (z20 1 v1) fun t8=>
 obind (z20 0 t8) fun t9=>
 obind (z9 h_2 t9) fun v10=>
 obind (z17 .i64 v10) fun t10=>
 lett (IntKind.u64.wrap t10) fun (t11:Int)=>
 obind (z20 1 v1) fun t14=>
 obind (z20 1 t14) fun t15=>
 obind (z9 h_2 t15) fun v16=>
 obind (z17 .i64 v16) fun t16=>
 lett (IntKind.i64.wrap (t16+1)) fun (t17:Int)=>
 lett (IntKind.u8.wrap t17) fun (t18:Int)=>
 callN (call 58 [.int .u64 t6] h_2) fun r7 h_20=>
 obind (z31 r7) fun t7=>
 chk (z6e Try.prog h_20 3 t15 (.int .i64 t16)&&(z6e Try.prog h_20 3 t9 (.int .i64 t10)&&(true&&true)))<|
 callN (call 58 [.int .u64 t11] h_20) fun r12 h_24=>
 obind (z31 r12) fun t12=>
 chk (z6e Try.prog h_24 3 t15 (.int .i64 t16)&&(true&&(true&&true)))<|
 obind (z43f t7 t12) fun t13=>
 callN (call 59 [.int .u8 t18] h_24) fun r19 h_29=>
 obind (z31 r19) fun t19=>
 obind (z43f t13 t19) fun t20=>
 callN (call 57 [ze t20] h_29) fun r21 h_33=>
 obind (z160 0 r21) fun v22=>
 obind (z31 v22) fun t22=>
 obind (z160 1 r21) fun v23=>
 obind (z17 .i64 v23) fun t23=>
 some (.ret (.tup [ze t22,.int .i64 t23]),h_33)
set_option maxHeartbeats 4000000 in
set_option maxRecDepth 20000 in
theorem z1dd{call:z11}(hc:SaysAll Try.prog call){n:Nat}{t0:List AV}{h:AHeap}{rR:ARes}{hR:AHeap}(hF:z78 call n t0 h=some (rR,hR)):Says Try.prog 32 [.agg t0] h rR hR:=by
 unfold z78 at hF;refine sO Try.func32 fun w0 m0=>?_;refine wW [(0,.agg t0)] ?_;refine oG fun n1=>W.r ?_;refine oK 1 hF fun v1 h_2 hF=>?_;refine oA 2 (ze ([]:zf)) ?_;refine oA 3 (.int .i64 0) ?_;refine oV [(1,v1)] (n1 ?_);refine oG fun n4=>?_;refine y12 (by kernel_rfl) (hc.ok w0) (plan:=[0,1,2,4,5,6,7,10,11,12,13,14,3,8,9,15,16,17,18,19,20,21]) (by kernel_rfl) (by kernel_rfl) (by kernel_rfl) ?_;obtain⟨t4,e5,hF⟩:=z4 hF;refine WD.b 0 (some 4) t4 h_2 (z10 (P:=Try.prog) (h:=h_2) (s:=89) (f:=0) (by kernel_rfl) e5) ?_
 replace hF:=z4 hF;obtain⟨v5,e6,hF⟩:=hF
 replace hF:=z4 hF;obtain⟨t5,c7,hF⟩:=hF
 have c7:=z15 c7;subst c7;refine WD.b 1 (some 5) (.int .i64 t5) h_2 (z12 (P:=Try.prog) (h:=h_2) (t:=3) (by kernel_rfl) e6) ?_;obtain⟨t6,e8,hF⟩:=z7 hF;refine WD.val (d:=(some 6)) (v:=.int .u64 t6) (h':=h_2) (by kernel_rfl) (by kernel_rfl) (z2a (AV.int .u64) e8 (by kernel_rfl)) (k:=0) (by kernel_rfl) (fun e=>absurd e (by decide)) (by decide) ?_;obtain⟨t8,e9,hF⟩:=z4 hF;refine WD.b 0 (some 8) t8 h_2 (z10 (P:=Try.prog) (h:=h_2) (s:=89) (f:=1) (by kernel_rfl) e9) ?_;obtain⟨t9,e10,hF⟩:=z4 hF;refine WD.b 0 (some 9) t9 h_2 (z10 (P:=Try.prog) (h:=h_2) (s:=31) (f:=0) (by kernel_rfl) e10) ?_
 replace hF:=z4 hF;obtain⟨v10,e11,hF⟩:=hF
 replace hF:=z4 hF;obtain⟨t10,c12,hF⟩:=hF
 have c12:=z15 c12;subst c12;refine WD.b 1 (some 10) (.int .i64 t10) h_2 (z12 (P:=Try.prog) (h:=h_2) (t:=3) (by kernel_rfl) e11) ?_;obtain⟨t11,e13,hF⟩:=z7 hF;refine WD.val (d:=(some 11)) (v:=.int .u64 t11) (h':=h_2) (by kernel_rfl) (by kernel_rfl) (z2a (AV.int .u64) e13 (by kernel_rfl)) (k:=0) (by kernel_rfl) (fun e=>absurd e (by decide)) (by decide) ?_;obtain⟨t14,e14,hF⟩:=z4 hF;refine WD.b 0 (some 14) t14 h_2 (z10 (P:=Try.prog) (h:=h_2) (s:=89) (f:=1) (by kernel_rfl) e14) ?_;obtain⟨t15,e15,hF⟩:=z4 hF;refine WD.b 0 (some 15) t15 h_2 (z10 (P:=Try.prog) (h:=h_2) (s:=31) (f:=1) (by kernel_rfl) e15) ?_
 replace hF:=z4 hF;obtain⟨v16,e16,hF⟩:=hF
 replace hF:=z4 hF;obtain⟨t16,c17,hF⟩:=hF
 have c17:=z15 c17;subst c17;refine WD.b 1 (some 16) (.int .i64 t16) h_2 (z12 (P:=Try.prog) (h:=h_2) (t:=3) (by kernel_rfl) e16) ?_;obtain⟨t17,e18,hF⟩:=z7 hF;refine WD.val (d:=(some 17)) (v:=.int .i64 t17) (h':=h_2) (by kernel_rfl) (by kernel_rfl) (z2a (AV.int .i64) e18 (by kernel_rfl)) (k:=0) (by kernel_rfl) (fun e=>absurd e (by decide)) (by decide) ?_;obtain⟨t18,e19,hF⟩:=z7 hF;refine WD.val (d:=(some 18)) (v:=.int .u8 t18) (h':=h_2) (by kernel_rfl) (by kernel_rfl) (z2a (AV.int .u8) e19 (by kernel_rfl)) (k:=0) (by kernel_rfl) (fun e=>absurd e (by decide)) (by decide) ?_
 replace hF:=z18 hF;obtain⟨r7,h_20,e21,hF⟩:=hF
 replace hF:=z4 hF;obtain⟨t7,c22,hF⟩:=hF
 have c22:=z22 c22;subst c22;obtain⟨k23,hF⟩:=z8a hF;refine WD.call (d:=(some 7)) (by kernel_rfl) (by kernel_rfl) (by kernel_rfl) e21 (k:=2) (by kernel_rfl) (fun _=>(Eq.trans (by kernel_rfl) k23)) (by decide) ?_
 replace hF:=z18 hF;obtain⟨r12,h_24,e25,hF⟩:=hF
 replace hF:=z4 hF;obtain⟨t12,c26,hF⟩:=hF
 have c26:=z22 c26;subst c26;obtain⟨k27,hF⟩:=z8a hF;refine WD.call (d:=(some 12)) (by kernel_rfl) (by kernel_rfl) (by kernel_rfl) e25 (k:=2) (by kernel_rfl) (fun _=>(Eq.trans (by kernel_rfl) k27)) (by decide) ?_;obtain⟨t13,e28,hF⟩:=z4 hF;refine WD.b 0 (some 13) (ze t13) h_24 (z16b (P:=Try.prog) (h:=h_24) (t:=9) (lit:=false) e28) ?_
 replace hF:=z18 hF;obtain⟨r19,h_29,e30,hF⟩:=hF
 replace hF:=z4 hF;obtain⟨t19,c31,hF⟩:=hF
 have c31:=z22 c31;subst c31;refine WD.call (d:=(some 19)) (by kernel_rfl) (by kernel_rfl) (by kernel_rfl) e30 (k:=2) (by kernel_rfl) (fun _=>(by kernel_rfl)) (by decide) ?_;obtain⟨t20,e32,hF⟩:=z4 hF;refine WD.b 0 (some 20) (ze t20) h_29 (z16b (P:=Try.prog) (h:=h_29) (t:=9) (lit:=false) e32) ?_;obtain⟨r21,h_33,e34,hF⟩:=z18 hF;refine WD.call (d:=(some 21)) (by kernel_rfl) (by kernel_rfl) (by kernel_rfl) e34 (k:=2) (by kernel_rfl) (fun _=>(by kernel_rfl)) (by decide) ?_
 replace hF:=z4 hF;obtain⟨v22,e35,hF⟩:=hF
 replace hF:=z4 hF;obtain⟨t22,c36,hF⟩:=hF
 have c36:=z22 c36;subst c36;refine WD.b 0 (some 22) (ze t22) h_33 (z51 (h:=h_33) e35) ?_
 replace hF:=z4 hF;obtain⟨v23,e37,hF⟩:=hF
 replace hF:=z4 hF;obtain⟨t23,c38,hF⟩:=hF
 have c38:=z15 c38;subst c38;refine WD.b 0 (some 23) (.int .i64 t23) h_33 (z51 (h:=h_33) e37) ?_;refine WD.a 0 (some 2) (ze t22) h_33 ?_;refine WD.a 0 (some 3) (.int .i64 t23) h_33 ?_;refine WD.nil ?_;refine gW [(2,ze t22),(3,.int .i64 t23)] (n4 (oY ?_));exact lZ hF [.tmp 2,.tmp 3] [ze t22,.int .i64 t23] (rT (rT zc))
noncomputable def z7c(call:z11)(_:Nat)(t0:AV)(t1:AV)(t2:AV)(h:AHeap):R:=
 lett (fun (t15:Bool) (h_5:AHeap)=>
  ifB t15
  (
   some (.ret (.int .i64 0),h_5))
  (
   obind (z9 h_5 t1) fun v16=>
   obind (z34 v16) fun t17=>
   obind (z20 0 t17) fun t18=>
   obind (z9 h_5 t18) fun v19=>
   obind (z9 h_5 t2) fun v20=>
   obind (z17 .i64 v20) fun t20=>
   callN (call 36 [v19,.int .i64 t20] h_5) fun r21 h_14=>
   obind (z17 .i64 r21) fun t21=>
   some (.ret (.int .i64 t21),h_14))) fun k4=>
 obind (z9 h t0) fun v4=>
 obind (z2f v4) fun t4=>
 lett (!t4) fun (t5:Bool)=>
 ifB t5
 (
  k4 true h)
 (
  obind (z9 h t1) fun v7=>
  obind (z34 v7) fun t8=>
  obind (z20 0 t8) fun t9=>
  obind (z9 h t9) fun v10=>
  obind (z9 h t2) fun v12=>
  obind (z17 .i64 v12) fun t12=>
  callN (call 12 [v10] h) fun r11 h_26=>
  chk (z6e Try.prog h_26 3 t2 (.int .i64 t12)&&(true&&(true&&(true&&true))))<|
  callN (call 35 [r11,.int .i64 t12] h_26) fun r13 h_29=>
  obind (z2f r13) fun t13=>
  lett (!t13) fun (t14:Bool)=>
  k4 t14 h_29)
set_option maxHeartbeats 4000000 in
set_option maxRecDepth 20000 in
theorem z1e1{call:z11}(hc:SaysAll Try.prog call){n:Nat}{t0:AV}{t1:AV}{t2:AV}{h:AHeap}{rR:ARes}{hR:AHeap}(hF:z7c call n t0 t1 t2 h=some (rR,hR)):Says Try.prog 34 [t0,t1,t2] h rR hR:=by
 unfold z7c at hF;refine sO Try.func34 fun w0 m0=>?_;refine wW [(0,t0),(1,t1),(2,t2)] ?_;refine oG fun n1=>W.r ?_;refine oA 3 (.int .i64 0) ?_;refine oV [(0,t0),(1,t1),(2,t2)] (n1 ?_);refine oH fun n2 q2=>?_;refine W.s (fun K3 n3 e3 q3 p3=>?_);obtain⟨k4,e4,hF⟩:=z7 hF
 have J4:∀(t15:Bool) (h_5:AHeap),k4 t15 h_5=some (rR,hR)→Go w0 m0 (Func.ntmps Try.f34) (K3 .normal) [(1,t1),(2,t2),(15,.bool t15)] [] h_5:=by
  intro t15 h_5 hF;rw[e4] at hF;refine n3 ?_
  cases t15 with
  |true=>
   refine oT hF fun hF=>?_;refine oG fun n6=>W.r ?_;refine oA 3 (.int .i64 0) ?_;refine oV [(3,.int .i64 0)] (n6 (oY (q2 ?_)));exact lZ hF [.tmp 3] [.int .i64 0] (rT zc)
  |false=>
   refine oU hF fun hF=>?_;refine oZ (n2 ?_);refine oG fun n7=>?_;refine y12 (by kernel_rfl) (hc.ok w0) (plan:=[0,1,2,3,4,5,6]) (by kernel_rfl) (by kernel_rfl) (by kernel_rfl) ?_;obtain⟨v16,e8,hF⟩:=z4 hF;refine WD.b 1 (some 16) v16 h_5 (z12 (P:=Try.prog) (h:=h_5) (t:=25) (by kernel_rfl) e8) ?_;obtain⟨t17,e9,hF⟩:=z4 hF;refine WD.b 0 (some 17) t17 h_5 (z1f (h:=h_5) e9) ?_;obtain⟨t18,e10,hF⟩:=z4 hF;refine WD.b 0 (some 18) t18 h_5 (z10 (P:=Try.prog) (h:=h_5) (s:=92) (f:=0) (by kernel_rfl) e10) ?_;obtain⟨v19,e11,hF⟩:=z4 hF;refine WD.b 1 (some 19) v19 h_5 (z12 (P:=Try.prog) (h:=h_5) (t:=23) (by kernel_rfl) e11) ?_
   replace hF:=z4 hF;obtain⟨v20,e12,hF⟩:=hF
   replace hF:=z4 hF;obtain⟨t20,c13,hF⟩:=hF
   have c13:=z15 c13;subst c13;refine WD.b 1 (some 20) (.int .i64 t20) h_5 (z12 (P:=Try.prog) (h:=h_5) (t:=3) (by kernel_rfl) e12) ?_
   replace hF:=z18 hF;obtain⟨r21,h_14,e15,hF⟩:=hF
   replace hF:=z4 hF;obtain⟨t21,c16,hF⟩:=hF
   have c16:=z15 c16;subst c16;refine WD.call (d:=(some 21)) (by kernel_rfl) (by kernel_rfl) (by kernel_rfl) e15 (k:=2) (by kernel_rfl) (fun _=>(by kernel_rfl)) (by decide) ?_;refine WD.a 0 (some 3) (.int .i64 t21) h_14 ?_;refine WD.nil ?_;refine gW [(3,.int .i64 t21)] (n7 (oY ?_));exact lZ hF [.tmp 3] [.int .i64 t21] (rT zc)
 refine y12 (by kernel_rfl) (hc.ok w0) (plan:=[0,1,2,3,4,5,6,8,7,9,10,11]) (by kernel_rfl) (by kernel_rfl) (by kernel_rfl) ?_
 replace hF:=z4 hF;obtain⟨v4,e17,hF⟩:=hF
 replace hF:=z4 hF;obtain⟨t4,c18,hF⟩:=hF
 have c18:=z1e c18;subst c18;refine WD.b 1 (some 4) (.bool t4) h (z12 (P:=Try.prog) (h:=h) (t:=4) (by kernel_rfl) e17) ?_;obtain⟨t5,e19,hF⟩:=z7 hF;refine WD.val (d:=(some 5)) (v:=.bool t5) (h':=h) (by kernel_rfl) (by kernel_rfl) (z2a AV.bool e19 (by kernel_rfl)) (k:=0) (by kernel_rfl) (fun e=>absurd e (by decide)) (by decide) ?_;refine WD.a 0 (some 6) (.bool t5) h ?_
 cases t5 with
 |true=>
  replace hF:=z53 hF
  refine oD 1 (some 7) ?_;refine oD 0 (some 8) ?_;refine oD 0 (some 9) ?_;refine oD 1 (some 10) ?_;refine oD 1 (some 12) ?_;refine WD.not (d:=(some 11)) (by kernel_rfl) (by kernel_rfl) (k:=2) (by kernel_rfl) (fun _=>(by kernel_rfl)) (by decide) ?_;refine WD.not (d:=(some 13)) (by kernel_rfl) (by kernel_rfl) (k:=2) (by kernel_rfl) (fun _=>(by kernel_rfl)) (by decide) ?_;refine oD 0 (some 14) ?_;refine WD.a 0 (some 15) (.bool true) h ?_;refine WD.nil ?_;exact gW _ (J4 _ _ hF)
 |false=>
  replace hF:=z54 hF
  obtain⟨v7,e20,hF⟩:=z4 hF;refine WD.b 1 (some 7) v7 h (z12 (P:=Try.prog) (h:=h) (t:=25) (by kernel_rfl) e20) ?_;obtain⟨t8,e21,hF⟩:=z4 hF;refine WD.b 0 (some 8) t8 h (z1f (h:=h) e21) ?_;obtain⟨t9,e22,hF⟩:=z4 hF;refine WD.b 0 (some 9) t9 h (z10 (P:=Try.prog) (h:=h) (s:=92) (f:=0) (by kernel_rfl) e22) ?_;obtain⟨v10,e23,hF⟩:=z4 hF;refine WD.b 1 (some 10) v10 h (z12 (P:=Try.prog) (h:=h) (t:=23) (by kernel_rfl) e23) ?_
  replace hF:=z4 hF;obtain⟨v12,e24,hF⟩:=hF
  replace hF:=z4 hF;obtain⟨t12,c25,hF⟩:=hF
  have c25:=z15 c25;subst c25;refine WD.b 1 (some 12) (.int .i64 t12) h (z12 (P:=Try.prog) (h:=h) (t:=3) (by kernel_rfl) e24) ?_;obtain⟨r11,h_26,e27,hF⟩:=z18 hF;obtain⟨k28,hF⟩:=z8a hF;refine WD.call (d:=(some 11)) (by kernel_rfl) (by kernel_rfl) (by kernel_rfl) e27 (k:=2) (by kernel_rfl) (fun _=>(Eq.trans (by kernel_rfl) k28)) (by decide) ?_
  replace hF:=z18 hF;obtain⟨r13,h_29,e30,hF⟩:=hF
  replace hF:=z4 hF;obtain⟨t13,c31,hF⟩:=hF
  have c31:=z1e c31;subst c31;refine WD.call (d:=(some 13)) (by kernel_rfl) (by kernel_rfl) (by kernel_rfl) e30 (k:=2) (by kernel_rfl) (fun _=>(by kernel_rfl)) (by decide) ?_;obtain⟨t14,e32,hF⟩:=z7 hF;refine WD.val (d:=(some 14)) (v:=.bool t14) (h':=h_29) (by kernel_rfl) (by kernel_rfl) (z2a AV.bool e32 (by kernel_rfl)) (k:=0) (by kernel_rfl) (fun e=>absurd e (by decide)) (by decide) ?_;refine WD.a 0 (some 15) (.bool t14) h_29 ?_;refine WD.nil ?_;exact gW _ (J4 _ _ hF)
noncomputable def z7b(call:z11)(_:Nat)(t0:AV)(t1:AV)(t2:AV)(h:AHeap):R:=obind (z9 h t0) fun v4=>obind (z34 v4) fun t5=>obind (z20 0 t5) fun t6=>obind (z9 h t6) fun v7=>obind (z9 h t1) fun v8=>obind (z17 .i64 v8) fun t8=>obind (z9 h t2) fun v9=>obind (z31 v9) fun t9=>callN (call 22 [v7,.int .i64 t8,ze t9] h) fun r10 h_11=>obind (z17 .i64 r10) fun t10=>some (.ret (.int .i64 t10),h_11)
set_option maxHeartbeats 4000000 in
set_option maxRecDepth 20000 in
theorem z1e0{call:z11}(hc:SaysAll Try.prog call){n:Nat}{t0:AV}{t1:AV}{t2:AV}{h:AHeap}{rR:ARes}{hR:AHeap}(hF:z7b call n t0 t1 t2 h=some (rR,hR)):Says Try.prog 37 [t0,t1,t2] h rR hR:=by
 unfold z7b at hF;refine sO Try.func37 fun w0 m0=>?_;refine wW [(0,t0),(1,t1),(2,t2)] ?_;refine oG fun n1=>W.r ?_;refine oA 3 (.int .i64 0) ?_;refine oV [(0,t0),(1,t1),(2,t2)] (n1 ?_);refine oG fun n2=>?_;refine y12 (by kernel_rfl) (hc.ok w0) (plan:=[0,1,2,3,4,5,6,7]) (by kernel_rfl) (by kernel_rfl) (by kernel_rfl) ?_;obtain⟨v4,e3,hF⟩:=z4 hF;refine WD.b 1 (some 4) v4 h (z12 (P:=Try.prog) (h:=h) (t:=25) (by kernel_rfl) e3) ?_;obtain⟨t5,e4,hF⟩:=z4 hF;refine WD.b 0 (some 5) t5 h (z1f (h:=h) e4) ?_;obtain⟨t6,e5,hF⟩:=z4 hF;refine WD.b 0 (some 6) t6 h (z10 (P:=Try.prog) (h:=h) (s:=92) (f:=0) (by kernel_rfl) e5) ?_;obtain⟨v7,e6,hF⟩:=z4 hF;refine WD.b 1 (some 7) v7 h (z12 (P:=Try.prog) (h:=h) (t:=23) (by kernel_rfl) e6) ?_
 replace hF:=z4 hF;obtain⟨v8,e7,hF⟩:=hF
 replace hF:=z4 hF;obtain⟨t8,c8,hF⟩:=hF
 have c8:=z15 c8;subst c8;refine WD.b 1 (some 8) (.int .i64 t8) h (z12 (P:=Try.prog) (h:=h) (t:=3) (by kernel_rfl) e7) ?_
 replace hF:=z4 hF;obtain⟨v9,e9,hF⟩:=hF
 replace hF:=z4 hF;obtain⟨t9,c10,hF⟩:=hF
 have c10:=z22 c10;subst c10;refine WD.b 1 (some 9) (ze t9) h (z12 (P:=Try.prog) (h:=h) (t:=9) (by kernel_rfl) e9) ?_
 replace hF:=z18 hF;obtain⟨r10,h_11,e12,hF⟩:=hF
 replace hF:=z4 hF;obtain⟨t10,c13,hF⟩:=hF
 have c13:=z15 c13;subst c13;refine WD.call (d:=(some 10)) (by kernel_rfl) (by kernel_rfl) (by kernel_rfl) e12 (k:=2) (by kernel_rfl) (fun _=>(by kernel_rfl)) (by decide) ?_;refine WD.a 0 (some 3) (.int .i64 t10) h_11 ?_;refine WD.nil ?_;refine gW [(3,.int .i64 t10)] (n2 (oY ?_));exact lZ hF [.tmp 3] [.int .i64 t10] (rT zc)
noncomputable def z7a(call:z11)(_:Nat)(t0:AV)(t1:AV)(h:AHeap):R:=obind (z9 h t0) fun v3=>obind (z34 v3) fun t4=>obind (z20 0 t4) fun t5=>obind (z9 h t5) fun v6=>obind (z9 h t1) fun v7=>obind (z17 .i64 v7) fun t7=>callN (call 39 [v6,.int .i64 t7] h) fun r8 h_9=>obind (z17 .i64 r8) fun t8=>some (.ret (.int .i64 t8),h_9)
set_option maxHeartbeats 4000000 in
set_option maxRecDepth 20000 in
theorem z1df{call:z11}(hc:SaysAll Try.prog call){n:Nat}{t0:AV}{t1:AV}{h:AHeap}{rR:ARes}{hR:AHeap}(hF:z7a call n t0 t1 h=some (rR,hR)):Says Try.prog 38 [t0,t1] h rR hR:=by
 unfold z7a at hF;refine sO Try.func38 fun w0 m0=>?_;refine wW [(0,t0),(1,t1)] ?_;refine oG fun n1=>W.r ?_;refine oA 2 (.int .i64 0) ?_;refine oV [(0,t0),(1,t1)] (n1 ?_);refine oG fun n2=>?_;refine y12 (by kernel_rfl) (hc.ok w0) (plan:=[0,1,2,3,4,5,6]) (by kernel_rfl) (by kernel_rfl) (by kernel_rfl) ?_;obtain⟨v3,e3,hF⟩:=z4 hF;refine WD.b 1 (some 3) v3 h (z12 (P:=Try.prog) (h:=h) (t:=25) (by kernel_rfl) e3) ?_;obtain⟨t4,e4,hF⟩:=z4 hF;refine WD.b 0 (some 4) t4 h (z1f (h:=h) e4) ?_;obtain⟨t5,e5,hF⟩:=z4 hF;refine WD.b 0 (some 5) t5 h (z10 (P:=Try.prog) (h:=h) (s:=92) (f:=0) (by kernel_rfl) e5) ?_;obtain⟨v6,e6,hF⟩:=z4 hF;refine WD.b 1 (some 6) v6 h (z12 (P:=Try.prog) (h:=h) (t:=23) (by kernel_rfl) e6) ?_
 replace hF:=z4 hF;obtain⟨v7,e7,hF⟩:=hF
 replace hF:=z4 hF;obtain⟨t7,c8,hF⟩:=hF
 have c8:=z15 c8;subst c8;refine WD.b 1 (some 7) (.int .i64 t7) h (z12 (P:=Try.prog) (h:=h) (t:=3) (by kernel_rfl) e7) ?_
 replace hF:=z18 hF;obtain⟨r8,h_9,e10,hF⟩:=hF
 replace hF:=z4 hF;obtain⟨t8,c11,hF⟩:=hF
 have c11:=z15 c11;subst c11;refine WD.call (d:=(some 8)) (by kernel_rfl) (by kernel_rfl) (by kernel_rfl) e10 (k:=2) (by kernel_rfl) (fun _=>(by kernel_rfl)) (by decide) ?_;refine WD.a 0 (some 2) (.int .i64 t8) h_9 ?_;refine WD.nil ?_;refine gW [(2,.int .i64 t8)] (n2 (oY ?_));exact lZ hF [.tmp 2] [.int .i64 t8] (rT zc)
noncomputable def zb0(_:z11)(_:Nat)(t0:List AV)(t1:List AV)(h:AHeap):R:=outK (zba h 31 (some (.agg t0))) fun v2 h_2=>outK (zba h_2 31 (some (.agg t1))) fun v3 h_4=>obind (z20 0 v2) fun t5=>obind (z9 h_4 t5) fun v6=>obind (z17 .i64 v6) fun t6=>obind (z20 0 v3) fun t7=>obind (z9 h_4 t7) fun v8=>obind (z17 .i64 v8) fun t8=>lett ((t6:Int) != t8) fun (t9:Bool)=>ifB t9 (obind (z20 0 v2) fun t10=>obind (z9 h_4 t10) fun v11=>obind (z17 .i64 v11) fun t11=>obind (z20 0 v3) fun t12=>obind (z9 h_4 t12) fun v13=>obind (z17 .i64 v13) fun t13=>lett (decide (t11>t13)) fun (t14:Bool)=>some (.ret (.bool t14),h_4)) (obind (z20 1 v3) fun t15=>obind (z9 h_4 t15) fun v16=>obind (z17 .i64 v16) fun t16=>lett ((t16:Int) == (-1)) fun (t17:Bool)=>lett (fun (t24:Bool) (h_28:AHeap)=>some (.ret (.bool t24),h_28)) fun j24=>ifB t17 (j24 true h_4) (obind (z20 1 v2) fun t19=>obind (z9 h_4 t19) fun v20=>obind (z17 .i64 v20) fun t20=>obind (z20 1 v3) fun t21=>obind (z9 h_4 t21) fun v22=>obind (z17 .i64 v22) fun t22=>lett ((t20:Int) == t22) fun (t23:Bool)=>j24 t23 h_4))
set_option maxHeartbeats 4000000 in
set_option maxRecDepth 20000 in
theorem z250{call:z11}(_:SaysAll Try.prog call){n:Nat}{t0:List AV}{t1:List AV}{h:AHeap}{rR:ARes}{hR:AHeap}(hF:zb0 call n t0 t1 h=some (rR,hR)):Says Try.prog 56 [.agg t0,.agg t1] h rR hR:=by
 unfold zb0 at hF;refine sO Try.func56 fun w0 m0=>?_;refine wW [(0,.agg t0),(1,.agg t1)] ?_;refine oG fun n1=>W.r ?_;refine oK 2 hF fun v2 h_2 hF=>?_;refine oK 3 hF fun v3 h_4 hF=>?_;refine oA 4 (.bool false) ?_;refine oV [(2,v2),(3,v3)] (n1 ?_);refine oH fun n6 q6=>?_;refine oG fun n7=>W.r ?_;refine oF 5 31 0 hF fun t5 hF=>?_;refine oLi 6 3 hF fun t6 hF=>?_;refine oF 7 31 0 hF fun t7 hF=>?_;refine oLi 8 3 hF fun t8 hF=>?_;refine oB 9 hF fun t9 hF=>?_;refine oV [(2,v2),(3,v3),(9,.bool t9)] (n7 ?_)
 cases t9 with
 |true=>
  refine oT hF fun hF=>?_;refine oG fun n15=>W.r ?_;refine oF 10 31 0 hF fun t10 hF=>?_;refine oLi 11 3 hF fun t11 hF=>?_;refine oF 12 31 0 hF fun t12 hF=>?_;refine oLi 13 3 hF fun t13 hF=>?_;refine oB 14 hF fun t14 hF=>?_;refine oA 4 (.bool t14) ?_;refine oV [(4,.bool t14)] (n15 (oY (q6 ?_)));exact lZ hF [.tmp 4] [.bool t14] (rT zc)
 |false=>
  refine oU hF fun hF=>?_;refine oZ (n6 ?_);refine W.s (fun K23 n23 e23 q23 p23=>?_);refine W.r ?_;refine oF 15 31 1 hF fun t15 hF=>?_;refine oLi 16 3 hF fun t16 hF=>?_;refine oB 17 hF fun t17 hF=>?_;refine oA 18 (.bool t17) ?_;obtain⟨j24,e29,hF⟩:=z7 hF
  have J30:∀(t24:Bool) (h_28:AHeap),j24 t24 h_28=some (rR,hR)→WL Try.prog w0 m0 (Func.ntmps Try.f56) (Code.ops (y6 (y4 (y4 (z3d Try.f56))))) 10 K23 [(24,.bool t24)] [] h_28:=by
   intro t24 h_28 hF;rw[e29] at hF;refine oA 4 (.bool t24) ?_;refine oV [(4,.bool t24)] (n23 (oY ?_));exact lZ hF [.tmp 4] [.bool t24] (rT zc)
  cases t17 with
  |true=>
   replace hF:=z53 hF
   refine WL.o (some 19) ?_;refine WL.o (some 20) ?_;refine WL.o (some 21) ?_;refine WL.o (some 22) ?_;refine WL.o (some 23) ?_;refine oA 24 (.bool true) ?_;exact lW _ (J30 _ _ hF)
  |false=>
   replace hF:=z54 hF
   refine oF 19 31 1 hF fun t19 hF=>?_;refine oLi 20 3 hF fun t20 hF=>?_;refine oF 21 31 1 hF fun t21 hF=>?_;refine oLi 22 3 hF fun t22 hF=>?_;refine oB 23 hF fun t23 hF=>?_;refine oA 24 (.bool t23) ?_;exact lW _ (J30 _ _ hF)
noncomputable def zaf(call:z11)(_:Nat)(t0:zf)(h:AHeap):R:=lett (newH h 89 [.int .i64 0,.int .i64 0,.int .i64 0]) fun h_2=>callN (call 70 [ze t0] h_2) fun r9 h_5=>callN (call 71 [r9] h_5) fun r11 h_8=>obind (z17 .u64 r11) fun t11=>callN (call 71 [r9] h_8) fun r13 h_11=>obind (z17 .u64 r13) fun t13=>callN (call 72 [r9] h_11) fun r15 h_14=>obind (z17 .u8 r15) fun t15=>callN (call 73 [r9] h_14) fun r17 h_19=>obind (z132 r17) fun t17=>obind (z451 0 t17) fun v18=>obind (z17 .i64 v18) fun t18=>lett ((t18:Int) != 0) fun (t19:Bool)=>lett (fun (t23:Bool) (h_25:AHeap)=>lett (fun (t27:Bool) (h_28:AHeap)=>lett (fun (t31:Bool) (h_31:AHeap)=>lett (fun (t35:Bool) (h_34:AHeap)=>ifB t35 (obind (z27 h_34 3 ([.int .i64 0,.int .i64 0,.int .i64 0]:List AV) (z1a h)) fun h_38=>obind (z2b h_38 3 (z1a h)) fun w2=>some (.ret (.tup [.agg w2,.bool false]),h_38)) (lett (IntKind.i64.wrap t11) fun (t38:Int)=>lett (IntKind.i64.wrap t13) fun (t40:Int)=>lett (IntKind.i64.wrap t15) fun (t42:Int)=>lett (IntKind.i64.wrap (t42 - 1)) fun (t43:Int)=>obind (z36d Try.prog 89 [(0,.int .i64 t38),(1,.agg ([.int .i64 t40,.int .i64 t43]:List AV))]) fun t45=>obind (z27 h_34 3 t45 (z1a h)) fun h_47=>obind (z2b h_47 3 (z1a h)) fun w2_50=>some (.ret (.tup [.agg w2_50,.bool true]),h_47))) fun j35=>ifB t31 (j35 true h_31) (lett (decide (t15>3)) fun (t34:Bool)=>j35 t34 h_31)) fun j31=>ifB t27 (j31 true h_28) (lett (decide (t13>1099511627776)) fun (t30:Bool)=>j31 t30 h_28)) fun j27=>ifB t23 (j27 true h_25) (lett (decide (t11>4611686018427387904)) fun (t26:Bool)=>j27 t26 h_25)) fun j23=>ifB t19 (j23 true h_19) (lett (decide (t11<1)) fun (t22:Bool)=>j23 t22 h_19)
set_option maxHeartbeats 4000000 in
set_option maxRecDepth 20000 in
theorem z24f{call:z11}(hc:SaysAll Try.prog call){n:Nat}{t0:zf}{h:AHeap}{rR:ARes}{hR:AHeap}(hF:zaf call n t0 h=some (rR,hR)):Says Try.prog 54 [ze t0] h rR hR:=by
 unfold zaf at hF;refine sO Try.func54 fun w0 m0=>?_;refine wW [(0,ze t0)] ?_;refine oG fun n1=>W.r ?_;refine oN 2 hF fun h_2 hF=>?_;refine oA 3 (.bool false) ?_;refine oV [(0,ze t0),(2,(z1a h))] (n1 ?_);refine oG fun n4=>W.r ?_;refine oA 8 (ze t0) ?_;refine oC hc (some 9) hF fun r9 h_5 hF=>?_;refine oA 4 r9 ?_;refine oV [(2,(z1a h)),(4,r9)] (n4 ?_);refine oG fun n7=>W.r ?_;refine oA 10 r9 ?_;refine oCi hc 11 hF fun t11 h_8 hF=>?_;refine oA 12 r9 ?_;refine oCi hc 13 hF fun t13 h_11 hF=>?_;refine oA 14 r9 ?_;refine oCi hc 15 hF fun t15 h_14 hF=>?_;refine oA 5 (.int .u64 t11) ?_;refine oA 6 (.int .u64 t13) ?_;refine oA 7 (.int .u8 t15) ?_;refine oV [(2,(z1a h)),(4,r9),(5,.int .u64 t11),(6,.int .u64 t13),(7,.int .u8 t15)] (n7 ?_);refine oH fun n17 q17=>?_;refine W.s (fun K18 n18 e18 q18 p18=>?_);refine W.r ?_;refine oA 16 r9 ?_;refine oCa hc 17 hF fun t17 h_19 hF=>?_
 replace hF:=z4 hF;obtain⟨v18,e22,hF⟩:=hF
 replace hF:=z4 hF;obtain⟨t18,c23,hF⟩:=hF
 have c23:=z15 c23;subst c23;refine WL.b (some 18) (.int .i64 t18) h_19 (z3b5 (P:=Try.prog) (h:=h_19) (t:=145) (f:=0) (by kernel_rfl) e22) ?_;refine oB 19 hF fun t19 hF=>?_;refine oA 20 (.bool t19) ?_;obtain⟨j23,e26,hF⟩:=z7 hF
 have J27:∀(t23:Bool) (h_25:AHeap),j23 t23 h_25=some (rR,hR)→WL Try.prog w0 m0 (Func.ntmps Try.f54) (Code.ops (y6 (y6 (y4 (y4 (y4 (z3d Try.f54))))))) 8 K18 [(2,(z1a h)),(5,.int .u64 t11),(6,.int .u64 t13),(7,.int .u8 t15),(23,.bool t23)] [] h_25:=by
  intro t23 h_25 hF;rw[e26] at hF;refine oA 24 (.bool t23) ?_;obtain⟨j27,e29,hF⟩:=z7 hF
  have J30:∀(t27:Bool) (h_28:AHeap),j27 t27 h_28=some (rR,hR)→WL Try.prog w0 m0 (Func.ntmps Try.f54) (Code.ops (y6 (y6 (y4 (y4 (y4 (z3d Try.f54))))))) 12 K18 [(2,(z1a h)),(5,.int .u64 t11),(6,.int .u64 t13),(7,.int .u8 t15),(27,.bool t27)] [] h_28:=by
   intro t27 h_28 hF;rw[e29] at hF;refine oA 28 (.bool t27) ?_;obtain⟨j31,e32,hF⟩:=z7 hF
   have J33:∀(t31:Bool) (h_31:AHeap),j31 t31 h_31=some (rR,hR)→WL Try.prog w0 m0 (Func.ntmps Try.f54) (Code.ops (y6 (y6 (y4 (y4 (y4 (z3d Try.f54))))))) 16 K18 [(2,(z1a h)),(5,.int .u64 t11),(6,.int .u64 t13),(7,.int .u8 t15),(31,.bool t31)] [] h_31:=by
    intro t31 h_31 hF;rw[e32] at hF;refine oA 32 (.bool t31) ?_;obtain⟨j35,e35,hF⟩:=z7 hF
    have J36:∀(t35:Bool) (h_34:AHeap),j35 t35 h_34=some (rR,hR)→WL Try.prog w0 m0 (Func.ntmps Try.f54) (Code.ops (y6 (y6 (y4 (y4 (y4 (z3d Try.f54))))))) 20 K18 [(2,(z1a h)),(5,.int .u64 t11),(6,.int .u64 t13),(7,.int .u8 t15),(35,.bool t35)] [] h_34:=by
     intro t35 h_34 hF;rw[e35] at hF;refine oV [(2,(z1a h)),(5,.int .u64 t11),(6,.int .u64 t13),(7,.int .u8 t15),(35,.bool t35)] (n18 ?_)
     cases t35 with
     |true=>
      refine oT hF fun hF=>?_;refine oG fun n37=>W.r ?_;refine oA 36 (.agg ([.int .i64 0,.int .i64 0,.int .i64 0]:List AV)) ?_;refine oW 89 (.agg ([.int .i64 0,.int .i64 0,.int .i64 0]:List AV)) hF fun h_38 hF=>?_;refine oA 3 (.bool false) ?_;refine oV [(2,(z1a h)),(3,.bool false)] (n37 (oY (q17 ?_)));obtain⟨w2,e40,hF⟩:=z4 hF;exact lZ hF [.cell 2 89,.tmp 3] [.agg w2,.bool false] (rY e40 (rT zc))
     |false=>
      refine oU hF fun hF=>?_;refine oZ (n17 ?_);refine oG fun n41=>W.r ?_;refine oA 37 (.int .u64 t11) ?_;refine oI 38 .i64 hF fun t38 hF=>?_;refine oA 39 (.int .u64 t13) ?_;refine oI 40 .i64 hF fun t40 hF=>?_;refine oA 41 (.int .u8 t15) ?_;refine oI 42 .i64 hF fun t42 hF=>?_;refine oI 43 .i64 hF fun t43 hF=>?_;refine oA 44 (.agg ([.int .i64 t40,.int .i64 t43]:List AV)) ?_;obtain⟨t45,e46,hF⟩:=z4 hF;refine WL.val (d:=(some 45)) (v:=.agg t45) (h':=h_34) (by kernel_rfl) (by kernel_rfl) (z1ac (by kernel_rfl) e46) ?_;refine oW 89 (.agg t45) hF fun h_47 hF=>?_;refine oA 3 (.bool true) ?_;refine oV [(2,(z1a h)),(3,.bool true)] (n41 (oY ?_));obtain⟨w2_50,e49,hF⟩:=z4 hF;exact lZ hF [.cell 2 89,.tmp 3] [.agg w2_50,.bool true] (rY e49 (rT zc))
    cases t31 with
    |true=>
     replace hF:=z53 hF
     refine WL.o (some 33) ?_;refine WL.o (some 34) ?_;refine oA 35 (.bool true) ?_;exact lW _ (J36 _ _ hF)
    |false=>
     replace hF:=z54 hF
     refine oA 33 (.int .u8 t15) ?_;refine oB 34 hF fun t34 hF=>?_;refine oA 35 (.bool t34) ?_;exact lW _ (J36 _ _ hF)
   cases t27 with
   |true=>
    replace hF:=z53 hF
    refine WL.o (some 29) ?_;refine WL.o (some 30) ?_;refine oA 31 (.bool true) ?_;exact lW _ (J33 _ _ hF)
   |false=>
    replace hF:=z54 hF
    refine oA 29 (.int .u64 t13) ?_;refine oB 30 hF fun t30 hF=>?_;refine oA 31 (.bool t30) ?_;exact lW _ (J33 _ _ hF)
  cases t23 with
  |true=>
   replace hF:=z53 hF
   refine WL.o (some 25) ?_;refine WL.o (some 26) ?_;refine oA 27 (.bool true) ?_;exact lW _ (J30 _ _ hF)
  |false=>
   replace hF:=z54 hF
   refine oA 25 (.int .u64 t11) ?_;refine oB 26 hF fun t26 hF=>?_;refine oA 27 (.bool t26) ?_;exact lW _ (J30 _ _ hF)
 cases t19 with
 |true=>
  replace hF:=z53 hF
  refine WL.o (some 21) ?_;refine WL.o (some 22) ?_;refine oA 23 (.bool true) ?_;exact lW _ (J27 _ _ hF)
 |false=>
  replace hF:=z54 hF
  refine oA 21 (.int .u64 t11) ?_;refine oB 22 hF fun t22 hF=>?_;refine oA 23 (.bool t22) ?_;exact lW _ (J27 _ _ hF)
noncomputable def z69(call:z11)(_:Nat)(t0:List AV)(t1:AV)(t2:Int)(h:AHeap):R:=outK (zba h 85 (some (.agg t0))) fun v3 h_2=>obind (z20 1 v3) fun t8=>obind (z9 h_2 t8) fun v9=>obind (z17 .i64 v9) fun t9=>obind (z20 2 v3) fun t10=>obind (z9 h_2 t10) fun v11=>obind (z17 .i64 v11) fun t11=>lett ((t9:Int) == t11) fun (t12:Bool)=>ifB t12 (some (.ret (.int .i64 0),h_2)) (obind (z20 1 v3) fun t15=>obind (z9 h_2 t15) fun v16=>obind (z17 .i64 v16) fun t16=>callN (call 55 [t1,.int .i64 t2,.int .i64 t16] h_2) fun r17 h_19=>obind (z17 .i64 r17) fun t17=>lett ((t17:Int) != 0) fun (t19:Bool)=>ifB t19 (some (.ret (.int .i64 t17),h_19)) (callN (call 39 [t1,.int .i64 t2] h_19) fun r23 h_26=>obind (z17 .i64 r23) fun t23=>some (.ret (.int .i64 t23),h_26)))
set_option maxHeartbeats 4000000 in
set_option maxRecDepth 20000 in
theorem z1c8{call:z11}(hc:SaysAll Try.prog call){n:Nat}{t0:List AV}{t1:AV}{t2:Int}{h:AHeap}{rR:ARes}{hR:AHeap}(hF:z69 call n t0 t1 t2 h=some (rR,hR)):Says Try.prog 30 [.agg t0,t1,.int .i64 t2] h rR hR:=by
 unfold z69 at hF;refine sO Try.func30 fun w0 m0=>?_;refine wW [(0,.agg t0),(1,t1),(2,.int .i64 t2)] ?_;refine oG fun n1=>W.r ?_;refine oK 3 hF fun v3 h_2 hF=>?_;refine oA 6 (.int .i64 0) ?_;refine oV [(1,t1),(2,.int .i64 t2),(3,v3)] (n1 ?_);refine oH fun n4 q4=>?_;refine oG fun n5=>W.r ?_;refine oF 8 85 1 hF fun t8 hF=>?_;refine oLi 9 3 hF fun t9 hF=>?_;refine oF 10 85 2 hF fun t10 hF=>?_;refine oLi 11 3 hF fun t11 hF=>?_;refine oB 12 hF fun t12 hF=>?_;refine oV [(1,t1),(2,.int .i64 t2),(3,v3),(12,.bool t12)] (n5 ?_)
 cases t12 with
 |true=>
  refine oT hF fun hF=>?_;refine oG fun n13=>W.r ?_;refine oA 6 (.int .i64 0) ?_;refine oV [(6,.int .i64 0)] (n13 (oY (q4 ?_)));exact lZ hF [.tmp 6] [.int .i64 0] (rT zc)
 |false=>
  refine oU hF fun hF=>?_;refine oZ (n4 ?_);refine oH fun n14 q14=>?_;refine oG fun n15=>W.r ?_;refine oA 13 t1 ?_;refine oA 14 (.int .i64 t2) ?_;refine oF 15 85 1 hF fun t15 hF=>?_;refine oLi 16 3 hF fun t16 hF=>?_;refine oCi hc 17 hF fun t17 h_19 hF=>?_;refine oA 7 (.int .i64 t17) ?_;refine oV [(1,t1),(2,.int .i64 t2),(7,.int .i64 t17)] (n15 ?_);refine oG fun n22=>W.r ?_;refine oA 18 (.int .i64 t17) ?_;refine oB 19 hF fun t19 hF=>?_;refine oV [(1,t1),(2,.int .i64 t2),(7,.int .i64 t17),(19,.bool t19)] (n22 ?_)
  cases t19 with
  |true=>
   refine oT hF fun hF=>?_;refine oG fun n24=>W.r ?_;refine oA 20 (.int .i64 t17) ?_;refine oA 6 (.int .i64 t17) ?_;refine oV [(6,.int .i64 t17)] (n24 (oY (q14 ?_)));exact lZ hF [.tmp 6] [.int .i64 t17] (rT zc)
  |false=>
   refine oU hF fun hF=>?_;refine oZ (n14 ?_);refine oG fun n25=>W.r ?_;refine oA 21 t1 ?_;refine oA 22 (.int .i64 t2) ?_;refine oCi hc 23 hF fun t23 h_26 hF=>?_;refine oA 6 (.int .i64 t23) ?_;refine oV [(6,.int .i64 t23)] (n25 (oY ?_));exact lZ hF [.tmp 6] [.int .i64 t23] (rT zc)
noncomputable def z33(call:z11)(_:Nat)(t0:AV)(t1:Int)(h:AHeap):R:=callN (call 60 [t0,.int .i64 t1] h) fun r7 h_3=>obind (z17 .i64 r7) fun t7=>lett (decide (t7≥0)) fun (t8:Bool)=>some (.ret (.bool t8),h_3)
set_option maxHeartbeats 4000000 in
set_option maxRecDepth 20000 in
theorem z12c{call:z11}(hc:SaysAll Try.prog call){n:Nat}{t0:AV}{t1:Int}{h:AHeap}{rR:ARes}{hR:AHeap}(hF:z33 call n t0 t1 h=some (rR,hR)):Says Try.prog 35 [t0,.int .i64 t1] h rR hR:=by
 unfold z33 at hF;refine sO Try.func35 fun w0 m0=>?_;refine wW [(0,t0),(1,.int .i64 t1)] ?_;refine oG fun n1=>W.r ?_;refine oA 4 (.bool false) ?_;refine oV [(0,t0),(1,.int .i64 t1)] (n1 ?_);refine oG fun n2=>W.r ?_;refine oA 5 t0 ?_;refine oA 6 (.int .i64 t1) ?_;refine oCi hc 7 hF fun t7 h_3 hF=>?_;refine oB 8 hF fun t8 hF=>?_;refine oA 4 (.bool t8) ?_;refine oV [(4,.bool t8)] (n2 (oY ?_));exact lZ hF [.tmp 4] [.bool t8] (rT zc)
noncomputable def z3f(t0:AV)(t1:Int)(t7:Int)(k6:AHeap→R)(self:Int→AHeap→R)(t8:Int)(h_10:AHeap):R:=lett (decide (t8<t7)) fun (t9:Bool)=>ifB t9 (obind (z18d 1 t0 t8) fun t14=>obind (z9 h_10 t14) fun v15=>obind (z17 .i64 v15) fun t15=>lett ((t1:Int) == t15) fun (t16:Bool)=>ifB t16 (some (.ret (.int .i64 t8),h_10)) (lett (IntKind.i64.wrap (t8+1)) fun (t18:Int)=>self t18 h_10)) (k6 h_10)
noncomputable def z43(t0:AV)(t1:Int)(t7:Int)(k6:AHeap→R):Nat→Int→AHeap→R:=z130 (fun _ _=>none) (z3f t0 t1 t7 k6)
theorem z64(t0:AV)(t1:Int)(t7:Int)(k6:AHeap→R)(m:Nat):z43 t0 t1 t7 k6 (m+1)=z3f t0 t1 t7 k6 (z43 t0 t1 t7 k6 m):=rfl
noncomputable def z40(_:z11)(n:Nat)(t0:AV)(t1:Int)(h:AHeap):R:=obind (z197 t0) fun t7=>lett (fun (h_7:AHeap)=>some (.ret (.int .i64 (-1)),h_7)) fun k6=>z43 t0 t1 t7 k6 n 0 h
set_option maxHeartbeats 4000000 in
set_option maxRecDepth 20000 in
theorem z15c{call:z11}(_:SaysAll Try.prog call){n:Nat}{t0:AV}{t1:Int}{h:AHeap}{rR:ARes}{hR:AHeap}(hF:z40 call n t0 t1 h=some (rR,hR)):Says Try.prog 60 [t0,.int .i64 t1] h rR hR:=by
 unfold z40 at hF;refine sO Try.func60 fun w0 m0=>?_;refine wW [(0,t0),(1,.int .i64 t1)] ?_;refine oG fun n1=>W.r ?_;refine oA 4 (.int .i64 0) ?_;refine oV [(0,t0),(1,.int .i64 t1)] (n1 ?_);refine W.s (fun K2 n2 e2 q2 p2=>?_);refine oG fun n3=>W.r ?_;refine oA 6 t0 ?_;refine oM 7 32 3 hF fun t7 hF=>?_;refine oA 8 (.int .i64 0) ?_;refine oV [(0,t0),(1,.int .i64 t1),(7,.int .i64 t7),(8,.int .i64 0)] (n3 ?_);obtain⟨k6,e6,hF⟩:=z7 hF
 have J6:∀(h_7:AHeap),k6 h_7=some (rR,hR)→Go w0 m0 (Func.ntmps Try.f60) (K2 .normal) [] [] h_7:=by
  intro h_7 hF;rw[e6] at hF;refine n2 ?_;refine oG fun n8=>W.r ?_;refine oA 4 (.int .i64 (-1)) ?_;refine oV [(4,.int .i64 (-1))] (n8 (oY ?_));exact lZ hF [.tmp 4] [.int .i64 (-1)] (rT zc)
 refine W.blockK (by kernel_rfl) (fun K5 n5 s5 o5 q5 p5=>?_);refine W.loopK (by kernel_rfl) (fun I9 K9 b9 n9 e9 q9 p9=>?_)
 have L9:∀(m:Nat) (t8:Int) (h_10:AHeap),z43 t0 t1 t7 k6 m t8 h_10=some (rR,hR)→Go w0 m0 (Func.ntmps Try.f60) I9 [(0,t0),(1,.int .i64 t1),(7,.int .i64 t7),(8,.int .i64 t8)] [] h_10:=by
  intro m
  induction m with
  |zero=>intro t8 h_10 hF;cases hF
  |succ m ih9=>
   intro t8 h_10 hF;rw[z64] at hF;unfold z3f at hF;refine b9 ?_;refine oG fun n11=>W.r ?_;refine oB 9 hF fun t9 hF=>?_;refine oV [(0,t0),(1,.int .i64 t1),(7,.int .i64 t7),(8,.int .i64 t8),(9,.bool t9)] (n11 ?_);refine W.s (fun K13 n13 e13 q13 p13=>?_)
   cases t9 with
   |true=>
    refine oT hF fun hF=>?_;refine oZ (n13 ?_);refine oH fun n14 q14=>?_;refine W.blockK (by kernel_rfl) (fun K15 n15 s15 o15 q15 p15=>?_);refine oG fun n16=>W.r ?_;refine oA 10 (.int .i64 t8) ?_;refine oA 5 (.int .i64 t8) ?_;refine oV [(0,t0),(1,.int .i64 t1),(5,.int .i64 t8),(7,.int .i64 t7),(8,.int .i64 t8)] (n16 ?_);refine oG fun n17=>W.r ?_;refine oA 11 (.int .i64 t1) ?_;refine oA 12 t0 ?_;refine oA 13 (.int .i64 t8) ?_;refine oP 14 32 3 .i64 hF fun t14 hF=>?_;refine oLi 15 3 hF fun t15 hF=>?_;refine oB 16 hF fun t16 hF=>?_;refine oV [(0,t0),(1,.int .i64 t1),(5,.int .i64 t8),(7,.int .i64 t7),(8,.int .i64 t8),(16,.bool t16)] (n17 ?_)
    cases t16 with
    |true=>
     refine oT hF fun hF=>?_;refine oG fun n22=>W.r ?_;refine oA 17 (.int .i64 t8) ?_;refine oA 4 (.int .i64 t8) ?_;refine oV [(4,.int .i64 t8)] (n22 (oY (q15 (q14 (q9 (q5 (q2 ?_)))))));exact lZ hF [.tmp 4] [.int .i64 t8] (rT zc)
    |false=>
     refine oU hF fun hF=>?_;refine oZ (n15 (n14 (W.r ?_)));refine oI 18 .i64 hF fun t18 hF=>?_;refine oA 8 (.int .i64 t18) ?_;refine oV [(0,t0),(1,.int .i64 t1),(7,.int .i64 t7),(8,.int .i64 t18)] (n9 ?_);exact gW _ (ih9 _ _ hF)
   |false=>
    refine oU hF fun hF=>?_;refine W.exit (by kernel_rfl) ?_;refine e13 (e9 ?_);refine s5 (by kernel_rfl) ?_;exact gW _ (J6 _ hF)
 exact gW _ (L9 _ _ _ hF)
end Go.Proofs.Yteecmjmglmpbpaa
