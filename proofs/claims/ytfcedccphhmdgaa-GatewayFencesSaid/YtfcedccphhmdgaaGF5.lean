/- What gatewayFences_proved stands on, part 5 of 8. -/
import Derived.Test.YtfcedccphhmdgaaGF4
import Derived.Test.YtfcedccphhmdgaaRows
import Derived.WalkKit
import Derived.ProofKit
import Derived.OpenShut
import Derived.SizedLaws
import Derived.SliceStrings
namespace Go.Proofs.Ytfcedccphhmdgaa
open Go.ChangeShapes Go.WideShapes Go.ChangeAt Go.RowKit
open Go.ChangeMaps (open_string shut_string)
theorem Try.own:ownKnob Try.prog.godebug=none:=by kernel_rfl
theorem y42:laidOutB Try.prog=true:=by kernel_rfl
section
variable {H:Type}{enc:TypeId×Value→H}
theorem stays{P:Program}(hP:laidOutB P=true){W W':World}(hb:Below W.heap.size W W')(ts:List TypeId):∀(vs:List Value) (ds:List (DataW H)) (ps:List MemPlace),
  DataW.TrodAll enc P W 0 (fun _=>true) true ts vs ds ps→(∀t∈ts,P.readableRec t=true∧t<P.types.size)→(∀x∈ps,x.block<W.heap.size)→
  DataW.TrodAll enc P W' 0 (fun b=>decide (b<W.heap.size)) true ts vs ds ps:=by
 induction ts with
 |nil=>
  intro vs ds ps h _ _;obtain⟨rfl,rfl,rfl⟩:=trodAll_nil h;exact trodAll_mk0
 |cons t ts ih=>
  intro vs ds ps h hr hlt;obtain⟨v,vs',d,ds',p,q,rfl,rfl,rfl,h1,h2⟩:=trodAll_cons h;obtain⟨hr1,hr2⟩:=hr t (List.mem_cons_self ..);exact trodAll_cons_mk (Below.trod hP hr1 hr2 h1 hb (fun x hx=>hlt x (List.mem_append_left _ hx))) (ih _ _ _ h2 (fun t ht=>hr t (List.mem_cons_of_mem _ ht)) (fun x hx=>hlt x (List.mem_append_right _ hx)))
theorem readable_of{P:Program}{ts:List TypeId}(h:(ts.all fun t=>P.readableRec t&&decide (t<P.types.size))=true):∀t∈ts,P.readableRec t=true∧t<P.types.size:=by
 intro t ht;have h1:=List.all_eq_true.1 h t ht;rw[Bool.and_eq_true] at h1;exact⟨h1.1,of_decide_eq_true h1.2⟩
set_option maxRecDepth 100000 in
theorem lifted_of{f:FuncId}{fn:Func}{s:ChangeSpec}(hfn:Try.prog.funcs[f]? =some fn)(noInit:Try.prog.inits.idxOf? f=none)(hvars:s.vars=[])(hres:fn.resultTypes= #[4])(hread:(fn.params.toList.all fun t=>Try.prog.readableRec t&&decide (t<Try.prog.types.size))=true)(hspec:∀(args:List Value) (ds:List (DataW H)) (W:World) (p:List MemPlace),DataW.TrodAll enc Try.prog W 0 (fun _=>true) true fn.params.toList args ds p→(s.fn H (ds++[])).results=[.lit (.bool true)]∧(s.fn H (ds++[])).args=ds∧(s.fn H (ds++[])).vars=[])(hplain:s.plain.varTypes Try.prog=[])(os:Os)(started:os.Started)(witness : ∃ (w : World) (tape : Tape) (i : Input), w.os = os ∧ (w.forCall tape i).Shaped Try.prog ∧ i.vars = [] ∧ Input.okWide Try.prog (w.forCall tape i) .any w.heap.size f i ∧
   s.pre6 enc Try.prog fn [] false (w.forCall tape i).memory i.args∧({}:Assume).holds Try.prog (lone (Frame.enter Try.prog f i.args .normal) [] (w.forCall tape i)))(walk : ∀ (W : World) (args : Array Value) (ds : List (DataW H)) (p : List MemPlace), (∀ (j : Nat) t v, fn.params[j]? = some t → args[j]? = some v → ∃ base, Value.okWide Try.prog W .any base t v) →
   DataW.TrodAll enc Try.prog W 0 (fun _=>true) true fn.params.toList args.toList ds p→(∀x∈p,x.block<W.heap.size)→
   (DataW.weightsEach Try.prog fn.params.toList ds).all (·≤reachBytes)=true→
   Calls Try.prog f args W fun e W'=>e=.returned (.bool true)∧Below W.heap.size W W'):
  ReturnsInHanded {} Try.checked os f .any (s.pre6 enc Try.prog fn [] false) (s.post enc Try.prog fn false true false false):=by
 refine returnsInHanded_of_change_sized (C:=Try.checked) Try.own started noInit hfn witness ?_;intro W base args ds gs before hval hW _ hsz0 _;have hW':=hW;obtain⟨p,q,hA0,hV,rfl,_,_⟩:=hW;have hA:DataW.TrodAll enc Try.prog W 0 (fun _=>true) true fn.params.toList args.toList ds p:=hA0;rw[hvars] at hV hW';obtain⟨rfl,rfl⟩:=trodVars_none hV;simp only[List.append_nil] at hW';have hlt:∀x∈p,x.block<W.heap.size:=fun x hx=>by simpa using hW'.lt x hx
 have hsz:(DataW.weightsEach Try.prog fn.params.toList ds).all (·≤reachBytes)=true:=by
  have h:=hsz0;rw[show s.plain.varTypes Try.checked.prog=[] from hplain] at h;simp only[List.append_nil] at h;exact h
 obtain⟨er,ea,ev⟩:=hspec args.toList ds W p hA;refine(walk W args ds p (fun j t v h1 h2=>⟨base,hval j t v h1 h2⟩) hA hlt hsz).mono fun e W' ⟨he,hb⟩=>?_;subst he;refine⟨_,rfl,ds,[],p,[],p,[],?_,?_,?_,?_,hb.frame _,fun h=>by cases h⟩
 ·rw[hvars];exact hW'
 ·rw[er,hres];exact trodAll_mk1 (shut_bool Try.underlying4 _)
 ·rw[ea];exact stays y42 hb _ _ _ _ hA (readable_of hread) hlt
 ·rw[ev,hvars];trivial
end
open Go.RowKit Abs
noncomputable def disk_New(_:CallF)(_:Nat)(h:AHeap):R:=outK (opBox h 66 (some (.agg ([.bool false,.nsl,.bool false,.nsl,.nsl,.bool false,.nsl,.bool false,.nsl,.nsl,.bool false,.nsl,.bool false,.nsl,.nsl,.bool false,.nsl,.bool false,.nsl,.nsl,.bool false,.nsl,.bool false,.nsl,.nsl,.bool false,.nsl,.bool false,.nsl,.nsl,.bool false,.nsl,.bool false,.nsl,.nsl,.bool false,.nsl,.bool false,.nsl,.nsl,.bool false,.nsl,.bool false,.nsl,.nsl,.bool false,.nsl,.bool false,.nsl,.nsl,.bool false,.nsl,.bool false,.nsl,.nsl,.bool false,.nsl,.bool false,.nsl,.nsl,.bool false,.nsl,.bool false,.nsl,.nsl,.bool false,.nsl,.bool false,.nsl,.nsl,.bool false,.nsl,.bool false,.nsl,.nsl,.bool false,.nsl,.bool false,.nsl,.nsl,.bool false,.nsl,.bool false,.nsl,.nsl,.bool false,.nsl,.bool false,.nsl,.nsl,.bool false,.nsl,.bool false,.nsl,.nsl,.bool false,.nsl,.bool false,.nsl,.nsl,.bool false,.nsl,.bool false,.nsl,.nsl,.bool false,.nsl,.bool false,.nsl,.nsl,.bool false,.nsl,.bool false,.nsl,.nsl,.bool false,.nsl,.bool false,.nsl,.nsl,.bool false,.nsl,.bool false,.nsl,.nsl,.bool false,.nsl,.bool false,.nsl,.nsl,.bool false,.nsl,.bool false,.nsl,.nsl,.bool false,.nsl,.bool false,.nsl,.nsl,.bool false,.nsl,.bool false,.nsl,.nsl,.bool false,.nsl,.bool false,.nsl,.nsl,.bool false,.nsl,.bool false,.nsl,.nsl,.bool false,.nsl,.bool false,.nsl,.nsl,.int .i64 (-1),.int .i64 0]:List AV)))) fun v2 h_3=>some (.ret (v2),h_3)
set_option maxHeartbeats 4000000 in
set_option maxRecDepth 20000 in
theorem disk_New_ok{call:CallF}(_:SaysAll Try.prog call){n:Nat}{h:AHeap}{rR:ARes}{hR:AHeap}(hF:disk_New call n h=some (rR,hR)):Says Try.prog 6 [] h rR hR:=by
 unfold disk_New at hF;exact sO Try.func6 fun w0 m0=>wW [] (oG fun n1=>W.r (oA 0 AV.nilp (oV [] (n1 (oG fun n2=>W.r (oA 1 (.agg ([.bool false,.nsl,.bool false,.nsl,.nsl,.bool false,.nsl,.bool false,.nsl,.nsl,.bool false,.nsl,.bool false,.nsl,.nsl,.bool false,.nsl,.bool false,.nsl,.nsl,.bool false,.nsl,.bool false,.nsl,.nsl,.bool false,.nsl,.bool false,.nsl,.nsl,.bool false,.nsl,.bool false,.nsl,.nsl,.bool false,.nsl,.bool false,.nsl,.nsl,.bool false,.nsl,.bool false,.nsl,.nsl,.bool false,.nsl,.bool false,.nsl,.nsl,.bool false,.nsl,.bool false,.nsl,.nsl,.bool false,.nsl,.bool false,.nsl,.nsl,.bool false,.nsl,.bool false,.nsl,.nsl,.bool false,.nsl,.bool false,.nsl,.nsl,.bool false,.nsl,.bool false,.nsl,.nsl,.bool false,.nsl,.bool false,.nsl,.nsl,.bool false,.nsl,.bool false,.nsl,.nsl,.bool false,.nsl,.bool false,.nsl,.nsl,.bool false,.nsl,.bool false,.nsl,.nsl,.bool false,.nsl,.bool false,.nsl,.nsl,.bool false,.nsl,.bool false,.nsl,.nsl,.bool false,.nsl,.bool false,.nsl,.nsl,.bool false,.nsl,.bool false,.nsl,.nsl,.bool false,.nsl,.bool false,.nsl,.nsl,.bool false,.nsl,.bool false,.nsl,.nsl,.bool false,.nsl,.bool false,.nsl,.nsl,.bool false,.nsl,.bool false,.nsl,.nsl,.bool false,.nsl,.bool false,.nsl,.nsl,.bool false,.nsl,.bool false,.nsl,.nsl,.bool false,.nsl,.bool false,.nsl,.nsl,.bool false,.nsl,.bool false,.nsl,.nsl,.bool false,.nsl,.bool false,.nsl,.nsl,.int .i64 (-1),.int .i64 0]:List AV)) (oK 2 hF fun v2 h_3 hF=>oA 0 v2 (oV [(0,v2)] (n2 (oY (lZ hF [.tmp 0] [v2] (rT res_nil))))))))))))
noncomputable def disk_Disk_Append(call:CallF)(_:Nat)(t0:AV)(t1:Int)(t2:Bytes)(h:AHeap):R:=callN (call 36 [t0,.int .i64 t1] h) fun r10 h_4=>obind (avInt .i64 r10) fun t10=>lett ((t10:Int) != 0) fun (t12:Bool)=>ifB t12 (some (.ret (.int .i64 t10),h_4)) (obind (nilC t0) fun t18=>obind (fldP 0 t18) fun t19=>obind (idxA 32 5 t19 t1) fun t20=>obind (fldP 2 t20) fun t21=>obind (fldP 1 t21) fun t22=>obind (ldCell h_4 t22) fun v23=>obind (lenL v23) fun t24=>lett (IntKind.i64.wrap (1048576 - t24)) fun (t25:Int)=>lett (decide ((lenS t2)>t25)) fun (t26:Bool)=>ifB t26 (some (.ret (.int .i64 8),h_4)) (callN (call 49 [t0,.int .i64 t1,.agg ([.int .i64 0,strA t2,.int .i64 0]:List AV)] h_4) fun r31 h_23=>obind (avInt .i64 r31) fun t31=>some (.ret (.int .i64 t31),h_23)))
set_option maxHeartbeats 4000000 in
set_option maxRecDepth 20000 in
theorem disk_Disk_Append_ok{call:CallF}(hc:SaysAll Try.prog call){n:Nat}{t0:AV}{t1:Int}{t2:Bytes}{h:AHeap}{rR:ARes}{hR:AHeap}(hF:disk_Disk_Append call n t0 t1 t2 h=some (rR,hR)):Says Try.prog 53 [t0,.int .i64 t1,strA t2] h rR hR:=by
 unfold disk_Disk_Append at hF;refine sO Try.func53 fun w0 m0=>wW [(0,t0),(1,.int .i64 t1),(2,strA t2)] (oG fun n1=>W.r (oA 6 (.int .i64 0) (oV [(0,t0),(1,.int .i64 t1),(2,strA t2)] (n1 (oH fun n2 q2=>oG fun n3=>W.r (oA 8 t0 (oA 9 (.int .i64 t1) (oCi hc 10 hF fun t10 h_4 hF=>oA 7 (.int .i64 t10) (oV [(0,t0),(1,.int .i64 t1),(2,strA t2),(7,.int .i64 t10)] (n3 (oG fun n7=>W.r (oA 11 (.int .i64 t10) (oB 12 hF fun t12 hF=>oV [(0,t0),(1,.int .i64 t1),(2,strA t2),(7,.int .i64 t10),(12,.bool t12)] (n7 ?_))))))))))))))
 cases t12 with
 |true=>
  exact oT hF fun hF=>oG fun n9=>W.r (oA 13 (.int .i64 t10) (oA 6 (.int .i64 t10) (oV [(6,.int .i64 t10)] (n9 (oY (q2 (lZ hF [.tmp 6] [.int .i64 t10] (rT res_nil))))))))
 |false=>
  refine oU hF fun hF=>oZ (n2 (oH fun n10 q10=>oG fun n11=>W.r (oA 14 (strA t2) (oA 15 (.int .i64 (lenS t2)) (oA 16 t0 (oA 17 (.int .i64 t1) (oC0 18 hF fun t18 hF=>oF 19 66 0 hF fun t19 hF=>oQ 20 64 63 .i64 hF fun t20 hF=>oF 21 63 1 hF fun t21 hF=>oF 22 60 1 hF fun t22 hF=>oL 23 58 hF fun v23 hF=>oM 24 58 5 hF fun t24 hF=>oI 25 .i64 hF fun t25 hF=>oB 26 hF fun t26 hF=>oV [(0,t0),(1,.int .i64 t1),(2,strA t2),(26,.bool t26)] (n11 ?_))))))))
  cases t26 with
  |true=>
   exact oT hF fun hF=>oG fun n21=>W.r (oA 6 (.int .i64 8) (oV [(6,.int .i64 8)] (n21 (oY (q10 (lZ hF [.tmp 6] [.int .i64 8] (rT res_nil)))))))
  |false=>
   exact oU hF fun hF=>oZ (n10 (oG fun n22=>W.r (oA 27 t0 (oA 28 (.int .i64 t1) (oA 29 (strA t2) (oA 30 (.agg ([.int .i64 0,strA t2,.int .i64 0]:List AV)) (oCi hc 31 hF fun t31 h_23 hF=>oA 6 (.int .i64 t31) (oV [(6,.int .i64 t31)] (n22 (oY (lZ hF [.tmp 6] [.int .i64 t31] (rT res_nil))))))))))))
noncomputable def disk_Disk_Sync(call:CallF)(_:Nat)(t0:AV)(t1:Int)(h:AHeap):R:=callN (call 36 [t0,.int .i64 t1] h) fun r9 h_4=>obind (avInt .i64 r9) fun t9=>lett ((t9:Int) != 0) fun (t11:Bool)=>ifB t11 (some (.ret (.int .i64 t9),h_4)) (obind (nilC t0) fun t15=>obind (fldP 0 t15) fun t16=>obind (idxA 32 5 t16 t1) fun t17=>obind (nilC t17) fun t19=>obind (fldP 0 t19) fun t20=>obind (nilC t17) fun t22=>obind (fldP 4 t22) fun t23=>obind (ldCell h_4 t23) fun v24=>callN (call 37 [t20,v24] h_4) fun _ h_20=>obind (nilC t17) fun t27=>obind (fldP 4 t27) fun t28=>obind (stRow h_20 1 (AV.cells AV.nsl) t28) fun h_25=>callN (call 38 [t0] h_25) fun _ h_28=>some (.ret (.int .i64 0),h_28))
set_option maxHeartbeats 4000000 in
set_option maxRecDepth 20000 in
theorem disk_Disk_Sync_ok{call:CallF}(hc:SaysAll Try.prog call){n:Nat}{t0:AV}{t1:Int}{h:AHeap}{rR:ARes}{hR:AHeap}(hF:disk_Disk_Sync call n t0 t1 h=some (rR,hR)):Says Try.prog 22 [t0,.int .i64 t1] h rR hR:=by
 unfold disk_Disk_Sync at hF;refine sO Try.func22 fun w0 m0=>wW [(0,t0),(1,.int .i64 t1)] (oG fun n1=>W.r (oA 4 (.int .i64 0) (oV [(0,t0),(1,.int .i64 t1)] (n1 (oH fun n2 q2=>oG fun n3=>W.r (oA 7 t0 (oA 8 (.int .i64 t1) (oCi hc 9 hF fun t9 h_4 hF=>oA 5 (.int .i64 t9) (oV [(0,t0),(1,.int .i64 t1),(5,.int .i64 t9)] (n3 (oG fun n7=>W.r (oA 10 (.int .i64 t9) (oB 11 hF fun t11 hF=>oV [(0,t0),(1,.int .i64 t1),(5,.int .i64 t9),(11,.bool t11)] (n7 ?_))))))))))))))
 cases t11 with
 |true=>
  exact oT hF fun hF=>oG fun n9=>W.r (oA 12 (.int .i64 t9) (oA 4 (.int .i64 t9) (oV [(4,.int .i64 t9)] (n9 (oY (q2 (lZ hF [.tmp 4] [.int .i64 t9] (rT res_nil))))))))
 |false=>
  refine oU hF fun hF=>oZ (n2 (oG fun n10=>W.r (oA 13 t0 (oA 14 (.int .i64 t1) (oC0 15 hF fun t15 hF=>oF 16 66 0 hF fun t16 hF=>oQ 17 64 63 .i64 hF fun t17 hF=>oA 6 t17 (oV [(0,t0),(6,t17)] (n10 (oG fun n14=>y15 (by kernel_rfl) (hc.ok w0) (plan:=[0,1,2,3,4,5,6,7]) (by kernel_rfl) (by kernel_rfl) (by kernel_rfl) (WD.a 0 (some 18) t17 h_4 ?_)))))))));obtain⟨t19,e15,hF⟩:=obind_some hF;refine WD.b 0 (some 19) t19 h_4 (nil_chk (h:=h_4) e15) ?_;obtain⟨t20,e16,hF⟩:=obind_some hF;refine WD.b 0 (some 20) t20 h_4 (field_ptr (P:=Try.prog) (h:=h_4) (s:=63) (f:=0) (by kernel_rfl) e16) (WD.a 0 (some 21) t17 h_4 ?_);obtain⟨t22,e17,hF⟩:=obind_some hF;refine WD.b 0 (some 22) t22 h_4 (nil_chk (h:=h_4) e17) ?_;obtain⟨t23,e18,hF⟩:=obind_some hF;refine WD.b 0 (some 23) t23 h_4 (field_ptr (P:=Try.prog) (h:=h_4) (s:=63) (f:=2) (by kernel_rfl) e18) ?_;obtain⟨v24,e19,hF⟩:=obind_some hF;refine WD.b 1 (some 24) v24 h_4 (load_cell (P:=Try.prog) (h:=h_4) (t:=61) (by kernel_rfl) e19) ?_;obtain⟨r25,h_20,e21,hF⟩:=callN_some hF;exact WD.call (d:=(some 25)) (by kernel_rfl) (by kernel_rfl) (by kernel_rfl) e21 (k:=2) (by kernel_rfl) (fun _=>(by kernel_rfl)) (by decide) (WD.nil (gW [(0,t0),(6,t17)] (n14 (oG fun n22=>W.r (oA 26 t17 (oC0 27 hF fun t27 hF=>oF 28 63 2 hF fun t28 hF=>oW 61 AV.nsl hF fun h_25 hF=>oV [(0,t0)] (n22 (oG fun n27=>W.r (oA 29 t0 (oC hc (some 30) hF fun r30 h_28 hF=>oV [] (n27 (oG fun n30=>W.r (oA 4 (.int .i64 0) (oV [(4,.int .i64 0)] (n30 (oY (lZ hF [.tmp 4] [.int .i64 0] (rT res_nil))))))))))))))))))
noncomputable def disk_Disk_Cut(call:CallF)(_:Nat)(t0:AV)(t1:Int)(t2:Int)(h:AHeap):R:=callN (call 36 [t0,.int .i64 t1] h) fun r11 h_4=>obind (avInt .i64 r11) fun t11=>lett ((t11:Int) != 0) fun (t13:Bool)=>ifB t13 (some (.ret (.int .i64 t11),h_4)) (obind (nilC t0) fun t17=>obind (fldP 0 t17) fun t18=>obind (idxA 32 5 t18 t1) fun t19=>obind (fldP 2 t19) fun t20=>obind (nilC t20) fun t22=>obind (fldP 0 t22) fun t23=>obind (ldCell h_4 t23) fun v24=>obind (avBool v24) fun t24=>lett (!t24) fun (t25:Bool)=>ifB t25 (some (.ret (.int .i64 4),h_4)) (lett (decide (t2<0)) fun (t27:Bool)=>lett (fun (t36:Bool) (h_26:AHeap)=>ifB t36 (some (.ret (.int .i64 5),h_26)) (callN (call 49 [t0,.int .i64 t1,.agg ([.int .i64 1,.str 0 0,.int .i64 t2]:List AV)] h_26) fun r41 h_31=>obind (avInt .i64 r41) fun t41=>some (.ret (.int .i64 t41),h_31))) fun j36=>ifB t27 (j36 true h_4) (obind (nilC t20) fun t31=>obind (fldP 1 t31) fun t32=>obind (ldCell h_4 t32) fun v33=>obind (lenL v33) fun t34=>lett (decide (t2>t34)) fun (t35:Bool)=>j36 t35 h_4)))
set_option maxHeartbeats 4000000 in
set_option maxRecDepth 20000 in
theorem disk_Disk_Cut_ok{call:CallF}(hc:SaysAll Try.prog call){n:Nat}{t0:AV}{t1:Int}{t2:Int}{h:AHeap}{rR:ARes}{hR:AHeap}(hF:disk_Disk_Cut call n t0 t1 t2 h=some (rR,hR)):Says Try.prog 34 [t0,.int .i64 t1,.int .i64 t2] h rR hR:=by
 unfold disk_Disk_Cut at hF;refine sO Try.func34 fun w0 m0=>wW [(0,t0),(1,.int .i64 t1),(2,.int .i64 t2)] (oG fun n1=>W.r (oA 6 (.int .i64 0) (oV [(0,t0),(1,.int .i64 t1),(2,.int .i64 t2)] (n1 (oH fun n2 q2=>oG fun n3=>W.r (oA 9 t0 (oA 10 (.int .i64 t1) (oCi hc 11 hF fun t11 h_4 hF=>oA 7 (.int .i64 t11) (oV [(0,t0),(1,.int .i64 t1),(2,.int .i64 t2),(7,.int .i64 t11)] (n3 (oG fun n7=>W.r (oA 12 (.int .i64 t11) (oB 13 hF fun t13 hF=>oV [(0,t0),(1,.int .i64 t1),(2,.int .i64 t2),(7,.int .i64 t11),(13,.bool t13)] (n7 ?_))))))))))))))
 cases t13 with
 |true=>
  exact oT hF fun hF=>oG fun n9=>W.r (oA 14 (.int .i64 t11) (oA 6 (.int .i64 t11) (oV [(6,.int .i64 t11)] (n9 (oY (q2 (lZ hF [.tmp 6] [.int .i64 t11] (rT res_nil))))))))
 |false=>
  refine oU hF fun hF=>oZ (n2 (oG fun n10=>W.r (oA 15 t0 (oA 16 (.int .i64 t1) (oC0 17 hF fun t17 hF=>oF 18 66 0 hF fun t18 hF=>oQ 19 64 63 .i64 hF fun t19 hF=>oF 20 63 1 hF fun t20 hF=>oA 8 t20 (oV [(0,t0),(1,.int .i64 t1),(2,.int .i64 t2),(8,t20)] (n10 (oH fun n15 q15=>oG fun n16=>W.r (oA 21 t20 (oC0 22 hF fun t22 hF=>oF 23 60 0 hF fun t23 hF=>oLb 24 4 hF fun t24 hF=>oB 25 hF fun t25 hF=>oV [(0,t0),(1,.int .i64 t1),(2,.int .i64 t2),(8,t20),(25,.bool t25)] (n16 ?_)))))))))))
  cases t25 with
  |true=>
   exact oT hF fun hF=>oG fun n22=>W.r (oA 6 (.int .i64 4) (oV [(6,.int .i64 4)] (n22 (oY (q15 (lZ hF [.tmp 6] [.int .i64 4] (rT res_nil)))))))
  |false=>
   refine oU hF fun hF=>oZ (n15 (oH fun n23 q23=>W.s (fun K24 n24 e24 q24 p24=>W.r (oA 26 (.int .i64 t2) (oB 27 hF fun t27 hF=>oA 28 (.bool t27) ?_)))));obtain⟨j36,e27,hF⟩:=lett_some hF
   have J28:∀(t36:Bool) (h_26:AHeap),j36 t36 h_26=some (rR,hR)→WL Try.prog w0 m0 (Func.ntmps Try.f34) (Code.ops (y6 (y6 (y3 (y3 (y3 (y3 (codeOf Try.f34)))))))) 11 K24 [(0,t0),(1,.int .i64 t1),(2,.int .i64 t2),(36,.bool t36)] [] h_26:=by
    intro t36 h_26 hF;rw[e27] at hF;refine oV [(0,t0),(1,.int .i64 t1),(2,.int .i64 t2),(36,.bool t36)] (n24 ?_)
    cases t36 with
    |true=>
     exact oT hF fun hF=>oG fun n29=>W.r (oA 6 (.int .i64 5) (oV [(6,.int .i64 5)] (n29 (oY (q23 (lZ hF [.tmp 6] [.int .i64 5] (rT res_nil)))))))
    |false=>
     exact oU hF fun hF=>oZ (n23 (oG fun n30=>W.r (oA 37 t0 (oA 38 (.int .i64 t1) (oA 39 (.int .i64 t2) (oA 40 (.agg ([.int .i64 1,.str 0 0,.int .i64 t2]:List AV)) (oCi hc 41 hF fun t41 h_31 hF=>oA 6 (.int .i64 t41) (oV [(6,.int .i64 t41)] (n30 (oY (lZ hF [.tmp 6] [.int .i64 t41] (rT res_nil))))))))))))
   cases t27 with
   |true=>
    replace hF:=ifB_t hF
    exact WL.o (some 29) (WL.o (some 30) (WL.o (some 31) (WL.o (some 32) (WL.o (some 33) (WL.o (some 34) (WL.o (some 35) (oA 36 (.bool true) (lW _ (J28 _ _ hF)))))))))
   |false=>
    replace hF:=ifB_f hF
    exact oA 29 (.int .i64 t2) (oA 30 t20 (oC0 31 hF fun t31 hF=>oF 32 60 1 hF fun t32 hF=>oL 33 58 hF fun v33 hF=>oM 34 58 5 hF fun t34 hF=>oB 35 hF fun t35 hF=>oA 36 (.bool t35) (lW _ (J28 _ _ hF))))
noncomputable def disk_Disk_Power(_:CallF)(_:Nat)(t0:AV)(t1:Int)(h:AHeap):R:=
 outK (opBin Try.prog h .eql 23 true (some t0) (some AV.nilp)) fun v6 h_4=>
 obind (avBool v6) fun t6=>
 ifB t6
 (
  some (.ret (.int .i64 1),h_4))
 (
  lett (if (-1)>t1 then (-1) else t1) fun (t9:Int)=>
  obind (nilC t0) fun t10=>
  obind (fldP 160 t10) fun t11=>
  obind (stRow h_4 1 [.int .i64 t9] t11) fun h_12=>
  some (.ret (.int .i64 0),h_12))
set_option maxHeartbeats 4000000 in
set_option maxRecDepth 20000 in
theorem disk_Disk_Power_ok{call:CallF}(_:SaysAll Try.prog call){n:Nat}{t0:AV}{t1:Int}{h:AHeap}{rR:ARes}{hR:AHeap}(hF:disk_Disk_Power call n t0 t1 h=some (rR,hR)):Says Try.prog 17 [t0,.int .i64 t1] h rR hR:=by
 unfold disk_Disk_Power at hF;refine sO Try.func17 fun w0 m0=>wW [(0,t0),(1,.int .i64 t1)] (oG fun n1=>W.r (oA 4 (.int .i64 0) (oV [(0,t0),(1,.int .i64 t1)] (n1 (oH fun n2 q2=>oG fun n3=>W.r (oA 5 t0 ?_))))))
 replace hF:=outK_some hF;obtain⟨v6,h_4,e5,hF⟩:=hF
 replace hF:=obind_some hF;obtain⟨t6,c6,hF⟩:=hF
 have c6:=avBool_some c6;subst c6;refine WL.b (some 6) (.bool t6) h_4 e5 (oV [(0,t0),(1,.int .i64 t1),(6,.bool t6)] (n3 ?_))
 cases t6 with
 |true=>
  exact oT hF fun hF=>oG fun n7=>W.r (oA 4 (.int .i64 1) (oV [(4,.int .i64 1)] (n7 (oY (q2 (lZ hF [.tmp 4] [.int .i64 1] (rT res_nil)))))))
 |false=>
  exact oU hF fun hF=>oZ (n2 (oG fun n8=>W.r (oA 7 t0 (oA 8 (.int .i64 t1) (oI 9 .i64 hF fun t9 hF=>oC0 10 hF fun t10 hF=>oF 11 66 1 hF fun t11 hF=>oW 3 (.int .i64 t9) hF fun h_12 hF=>oV [] (n8 (oG fun n14=>W.r (oA 4 (.int .i64 0) (oV [(4,.int .i64 0)] (n14 (oY (lZ hF [.tmp 4] [.int .i64 0] (rT res_nil)))))))))))))
noncomputable def disk_Disk_On(_:CallF)(_:Nat)(t0:AV)(h:AHeap):R:=outK (opBin Try.prog h .neq 23 true (some t0) (some AV.nilp)) fun v4 h_3=>obind (avBool v4) fun t4=>lett (fun (t11:Bool) (h_6:AHeap)=>some (.ret (.bool t11),h_6)) fun j11=>ifB t4 (obind (nilC t0) fun t7=>obind (fldP 160 t7) fun t8=>obind (ldCell h_3 t8) fun v9=>obind (avInt .i64 v9) fun t9=>lett ((t9:Int) != 0) fun (t10:Bool)=>j11 t10 h_3) (j11 false h_3)
set_option maxHeartbeats 4000000 in
set_option maxRecDepth 20000 in
theorem disk_Disk_On_ok{call:CallF}(_:SaysAll Try.prog call){n:Nat}{t0:AV}{h:AHeap}{rR:ARes}{hR:AHeap}(hF:disk_Disk_On call n t0 h=some (rR,hR)):Says Try.prog 50 [t0] h rR hR:=by
 unfold disk_Disk_On at hF;refine sO Try.func50 fun w0 m0=>wW [(0,t0)] (oG fun n1=>W.r (oA 2 (.bool false) (oV [(0,t0)] (n1 (W.s (fun K2 n2 e2 q2 p2=>W.r (oA 3 t0 ?_)))))))
 replace hF:=outK_some hF;obtain⟨v4,h_3,e4,hF⟩:=hF
 replace hF:=obind_some hF;obtain⟨t4,c5,hF⟩:=hF
 have c5:=avBool_some c5;subst c5;refine WL.b (some 4) (.bool t4) h_3 e4 (oA 5 (.bool t4) ?_);obtain⟨j11,e7,hF⟩:=lett_some hF
 have J8:∀(t11:Bool) (h_6:AHeap),j11 t11 h_6=some (rR,hR)→WL Try.prog w0 m0 (Func.ntmps Try.f50) (Code.ops (y6 (y3 (codeOf Try.f50)))) 9 K2 [(11,.bool t11)] [] h_6:=by
  intro t11 h_6 hF;rw[e7] at hF;exact oA 2 (.bool t11) (oV [(2,.bool t11)] (n2 (oY (lZ hF [.tmp 2] [.bool t11] (rT res_nil)))))
 cases t4 with
 |true=>
  replace hF:=ifB_t hF
  exact oA 6 t0 (oC0 7 hF fun t7 hF=>oF 8 66 1 hF fun t8 hF=>oLi 9 3 hF fun t9 hF=>oB 10 hF fun t10 hF=>oA 11 (.bool t10) (lW _ (J8 _ _ hF)))
 |false=>
  replace hF:=ifB_f hF
  exact WL.o (some 6) (WL.o (some 7) (WL.o (some 8) (WL.o (some 9) (WL.o (some 10) (oA 11 (.bool false) (lW _ (J8 _ _ hF)))))))
noncomputable def disk_Disk_refuses(call:CallF)(_:Nat)(t0:AV)(t1:Int)(h:AHeap):R:=outK (opBin Try.prog h .eql 23 true (some t0) (some AV.nilp)) fun v7 h_5=>obind (avBool v7) fun t7=>ifB t7 (some (.ret (.int .i64 1),h_5)) (callN (call 50 [t0] h_5) fun r10 h_10=>obind (avBool r10) fun t10=>lett (!t10) fun (t11:Bool)=>ifB t11 (some (.ret (.int .i64 40),h_10)) (callN (call 35 [.int .i64 t1] h_10) fun r14 h_16=>obind (avBool r14) fun t14=>lett (!t14) fun (t15:Bool)=>ifB t15 (some (.ret (.int .i64 2),h_16)) (some (.ret (.int .i64 0),h_16))))
set_option maxHeartbeats 4000000 in
set_option maxRecDepth 20000 in
theorem disk_Disk_refuses_ok{call:CallF}(hc:SaysAll Try.prog call){n:Nat}{t0:AV}{t1:Int}{h:AHeap}{rR:ARes}{hR:AHeap}(hF:disk_Disk_refuses call n t0 t1 h=some (rR,hR)):Says Try.prog 36 [t0,.int .i64 t1] h rR hR:=by
 unfold disk_Disk_refuses at hF;refine sO Try.func36 fun w0 m0=>wW [(0,t0),(1,.int .i64 t1)] (oG fun n1=>W.r (oA 4 (.int .i64 0) (oV [(0,t0),(1,.int .i64 t1)] (n1 (oH fun n2 q2=>W.blockK (by kernel_rfl) (fun K3 n3 s3 o3 q3 p3=>oG fun n4=>W.r (oA 6 t0 ?_)))))))
 replace hF:=outK_some hF;obtain⟨v7,h_5,e6,hF⟩:=hF
 replace hF:=obind_some hF;obtain⟨t7,c7,hF⟩:=hF
 have c7:=avBool_some c7;subst c7;refine WL.b (some 7) (.bool t7) h_5 e6 (oA 5 (.bool t7) (oV [(0,t0),(1,.int .i64 t1),(5,.bool t7)] (n4 ?_)))
 cases t7 with
 |true=>
  exact oT hF fun hF=>oG fun n8=>W.r (oA 4 (.int .i64 1) (oV [(4,.int .i64 1)] (n8 (oY (q3 (q2 (lZ hF [.tmp 4] [.int .i64 1] (rT res_nil))))))))
 |false=>
  refine oU hF fun hF=>oG fun n9=>W.r (oA 9 t0 (oCb hc 10 hF fun t10 h_10 hF=>oB 11 hF fun t11 hF=>oA 8 (.bool t11) (oV [(1,.int .i64 t1),(8,.bool t11)] (n9 ?_))))
  cases t11 with
  |true=>
   exact oT hF fun hF=>oG fun n14=>W.r (oA 4 (.int .i64 40) (oV [(4,.int .i64 40)] (n14 (oY (q3 (q2 (lZ hF [.tmp 4] [.int .i64 40] (rT res_nil))))))))
  |false=>
   refine oU hF fun hF=>oG fun n15=>W.r (oA 13 (.int .i64 t1) (oCb hc 14 hF fun t14 h_16 hF=>oB 15 hF fun t15 hF=>oA 12 (.bool t15) (oV [(12,.bool t15)] (n15 ?_))))
   cases t15 with
   |true=>
    exact oT hF fun hF=>oG fun n20=>W.r (oA 4 (.int .i64 2) (oV [(4,.int .i64 2)] (n20 (oY (q3 (q2 (lZ hF [.tmp 4] [.int .i64 2] (rT res_nil))))))))
   |false=>
    exact oU hF fun hF=>oZ (n3 (n2 (oG fun n21=>W.r (oA 4 (.int .i64 0) (oV [(4,.int .i64 0)] (n21 (oY (lZ hF [.tmp 4] [.int .i64 0] (rT res_nil)))))))))
noncomputable def disk_Disk_change(call:CallF)(_:Nat)(t0:AV)(t1:Int)(t2:List AV)(h:AHeap):R:=
 outK (opBox h 105 (some (.agg t2))) fun v5 h_2=>
 obind (nilC t0) fun t10=>
 obind (fldP 0 t10) fun t11=>
 obind (idxA 32 5 t11 t1) fun t12=>
 obind (nilC t12) fun t14=>
 obind (fldP 2 t14) fun t15=>
 obind (ldRow h_2 3 v5) fun t16=>
 outK (bldSl Try.prog h_2 61 1 [(0,.agg t16)]) fun v17 h_12=>
 callN (call 37 [t15,v17] h_12) fun _ h_14=>
 obind (nilC t12) fun t21=>
 obind (fldP 4 t21) fun t22=>
 obind (ldCell h_14 t22) fun v23=>
 obind (ldRow h_14 3 v5) fun t24=>
 outK (bldSl Try.prog h_14 61 1 [(0,.agg t24)]) fun v25 h_21=>
 chk (true&&(reLoad Try.prog h_21 61 t22 v23&&true))<|
 outK (opAppend Try.prog h_21 61 61 v23 v25) fun v26 h_24=>
 obind (nilC t12) fun t27=>
 obind (fldP 4 t27) fun t28=>
 obind (stRow h_24 1 (AV.cells v26) t28) fun h_28=>
 callN (call 38 [t0] h_28) fun _ h_31=>
 some (.ret (.int .i64 0),h_31)
set_option maxHeartbeats 4000000 in
set_option maxRecDepth 20000 in
theorem disk_Disk_change_ok{call:CallF}(hc:SaysAll Try.prog call){n:Nat}{t0:AV}{t1:Int}{t2:List AV}{h:AHeap}{rR:ARes}{hR:AHeap}(hF:disk_Disk_change call n t0 t1 t2 h=some (rR,hR)):Says Try.prog 49 [t0,.int .i64 t1,.agg t2] h rR hR:=by
 unfold disk_Disk_change at hF;refine sO Try.func49 fun w0 m0=>wW [(0,t0),(1,.int .i64 t1),(2,.agg t2)] (oG fun n1=>W.r (oK 5 hF fun v5 h_2 hF=>oA 6 (.int .i64 0) (oV [(0,t0),(1,.int .i64 t1),(5,v5)] (n1 (oG fun n4=>W.r (oA 8 t0 (oA 9 (.int .i64 t1) (oC0 10 hF fun t10 hF=>oF 11 66 0 hF fun t11 hF=>oQ 12 64 63 .i64 hF fun t12 hF=>oA 7 t12 (oV [(0,t0),(5,v5),(7,t12)] (n4 (oG fun n8=>y15 (by kernel_rfl) (hc.ok w0) (plan:=[0,1,2,3,4,5]) (by kernel_rfl) (by kernel_rfl) (by kernel_rfl) (WD.a 0 (some 13) t12 h_2 ?_))))))))))));obtain⟨t14,e9,hF⟩:=obind_some hF;refine WD.b 0 (some 14) t14 h_2 (nil_chk (h:=h_2) e9) ?_;obtain⟨t15,e10,hF⟩:=obind_some hF;refine WD.b 0 (some 15) t15 h_2 (field_ptr (P:=Try.prog) (h:=h_2) (s:=63) (f:=1) (by kernel_rfl) e10) ?_;obtain⟨t16,e11,hF⟩:=obind_some hF;refine WD.b 1 (some 16) (.agg t16) h_2 (load_row (P:=Try.prog) (h:=h_2) (t:=105) (by kernel_rfl) (by kernel_rfl) e11) ?_;obtain⟨v17,h_12,e13,hF⟩:=outK_some hF;refine WD.val (d:=(some 17)) (v:=v17) (h':=h_12) (by kernel_rfl) (by kernel_rfl) (Eq.trans (by kernel_rfl) e13) (k:=2) (by kernel_rfl) (fun _=>(by kernel_rfl)) (by decide) ?_;obtain⟨r18,h_14,e15,hF⟩:=callN_some hF;refine WD.call (d:=(some 18)) (by kernel_rfl) (by kernel_rfl) (by kernel_rfl) e15 (k:=2) (by kernel_rfl) (fun _=>(by kernel_rfl)) (by decide) (WD.nil (gW [(0,t0),(5,v5),(7,t12)] (n8 (oG fun n16=>y15 (by kernel_rfl) (hc.ok w0) (plan:=[0,1,2,3,4,5,6,7,8,9,10]) (by kernel_rfl) (by kernel_rfl) (by kernel_rfl) (WD.a 0 (some 19) t12 h_14 (WD.a 0 (some 20) t12 h_14 ?_))))));obtain⟨t21,e17,hF⟩:=obind_some hF;refine WD.b 0 (some 21) t21 h_14 (nil_chk (h:=h_14) e17) ?_;obtain⟨t22,e18,hF⟩:=obind_some hF;refine WD.b 0 (some 22) t22 h_14 (field_ptr (P:=Try.prog) (h:=h_14) (s:=63) (f:=2) (by kernel_rfl) e18) ?_;obtain⟨v23,e19,hF⟩:=obind_some hF;refine WD.b 1 (some 23) v23 h_14 (load_cell (P:=Try.prog) (h:=h_14) (t:=61) (by kernel_rfl) e19) ?_;obtain⟨t24,e20,hF⟩:=obind_some hF;refine WD.b 1 (some 24) (.agg t24) h_14 (load_row (P:=Try.prog) (h:=h_14) (t:=105) (by kernel_rfl) (by kernel_rfl) e20) ?_;obtain⟨v25,h_21,e22,hF⟩:=outK_some hF;obtain⟨k23,hF⟩:=chk_some hF;refine WD.val (d:=(some 25)) (v:=v25) (h':=h_21) (by kernel_rfl) (by kernel_rfl) (Eq.trans (by kernel_rfl) e22) (k:=2) (by kernel_rfl) (fun _=>(Eq.trans (by kernel_rfl) k23)) (by decide) ?_;obtain⟨v26,h_24,e25,hF⟩:=outK_some hF;refine WD.val (d:=(some 26)) (v:=v26) (h':=h_24) (by kernel_rfl) (by kernel_rfl) (Eq.trans (by kernel_rfl) e25) (k:=2) (by kernel_rfl) (fun _=>(by kernel_rfl)) (by decide) ?_;obtain⟨t27,e26,hF⟩:=obind_some hF;refine WD.b 0 (some 27) t27 h_24 (nil_chk (h:=h_24) e26) ?_;obtain⟨t28,e27,hF⟩:=obind_some hF;refine WD.b 0 (some 28) t28 h_24 (field_ptr (P:=Try.prog) (h:=h_24) (s:=63) (f:=2) (by kernel_rfl) e27) ?_;obtain⟨h_28,e29,hF⟩:=obind_some hF;exact WD.eff (h':=h_28) (by kernel_rfl) (by kernel_rfl) (Eq.trans (by kernel_rfl) (store_row (P:=Try.prog) (h:=h_24) (t:=61) (v:=v26) (by kernel_rfl) (by kernel_rfl) e29)) (k:=2) (by kernel_rfl) (fun _=>(by kernel_rfl)) (by decide) (WD.nil (gW [(0,t0)] (n16 (oG fun n30=>W.r (oA 29 t0 (oC hc (some 30) hF fun r30 h_31 hF=>oV [] (n30 (oG fun n33=>W.r (oA 6 (.int .i64 0) (oV [(6,.int .i64 0)] (n33 (oY (lZ hF [.tmp 6] [.int .i64 0] (rT res_nil))))))))))))))
noncomputable def disk_content_do_L0b(t0:AV)(t1:AV)(t7:Int)(k4:AHeap→R)(self:Int→AHeap→R)(t8:Int)(h_7:AHeap):R:=lett (decide (t8<t7)) fun (t9:Bool)=>ifB t9 (obind (idxP 3 t1 t8) fun t10=>obind (ldRow h_7 3 t10) fun t11=>lett (newH h_7 105 [.int .i64 0,.str 0 0,.int .i64 0]) fun h_16=>obind (stRow h_16 3 t11 (newP h_7)) fun h_18=>obind (ldCell h_18 (AV.ptr (AHeap.next h_7) 0)) fun v13=>obind (avInt .i64 v13) fun t13=>lett ((t13:Int) == 0) fun (t15:Bool)=>lett (fun (h_27:AHeap)=>lett (IntKind.i64.wrap (t8+1)) fun (t46:Int)=>self t46 h_27) fun k26=>ifB t15 (obind (nilC t0) fun t17=>obind (fldP 0 t17) fun t18=>obind (stRow h_18 1 [.bool true] t18) fun h_32=>obind (nilC t0) fun t21=>obind (fldP 1 t21) fun t22=>obind (ldCell h_32 t22) fun v23=>obind (ldCell h_32 (AV.ptr (AHeap.next h_7) 1)) fun v25=>obind (avStr v25) fun t25=>outK (opAppend Try.prog h_32 58 9 v23 (strA t25)) fun v26 h_39=>obind (nilC t0) fun t27=>obind (fldP 1 t27) fun t28=>obind (stRow h_39 1 (AV.cells v26) t28) fun h_43=>k26 h_43) (lett ((t13:Int) == 1) fun (t30:Bool)=>lett (fun (h_48:AHeap)=>k26 h_48) fun k47=>ifB t30 (obind (nilC t0) fun t33=>obind (fldP 1 t33) fun t34=>obind (ldCell h_18 t34) fun v35=>obind (ldCell h_18 (AV.ptr (AHeap.next h_7) 2)) fun v37=>obind (avInt .i64 v37) fun t37=>outK (sliceA Try.prog h_18 58 v35 none (some (.int .i64 t37))) fun v38 h_54=>obind (nilC t0) fun t39=>obind (fldP 1 t39) fun t40=>obind (stRow h_54 1 (AV.cells v38) t40) fun h_58=>k47 h_58) (lett ((t13:Int) == 2) fun (t42:Bool)=>lett (fun (h_63:AHeap)=>k47 h_63) fun k62=>ifB t42 (obind (nilC t0) fun t45=>obind (stRow h_18 2 ([.bool false,.nsl]:List AV) t45) fun h_65=>k62 h_65) (k62 h_18)))) (k4 h_7)
noncomputable def disk_content_do_L0(t0:AV)(t1:AV)(t7:Int)(k4:AHeap→R):Nat→Int→AHeap→R:=iterR (fun _ _=>none) (disk_content_do_L0b t0 t1 t7 k4)
theorem disk_content_do_L0_s(t0:AV)(t1:AV)(t7:Int)(k4:AHeap→R)(m:Nat):disk_content_do_L0 t0 t1 t7 k4 (m+1)=disk_content_do_L0b t0 t1 t7 k4 (disk_content_do_L0 t0 t1 t7 k4 m):=rfl
noncomputable def disk_content_do(_:CallF)(n:Nat)(t0:AV)(t1:AV)(h:AHeap):R:=obind (lenL t1) fun t7=>lett (fun (h_5:AHeap)=>some (.ret (.tup []),h_5)) fun k4=>disk_content_do_L0 t0 t1 t7 k4 n 0 h
set_option maxHeartbeats 4000000 in
set_option maxRecDepth 20000 in
theorem disk_content_do_ok{call:CallF}(hc:SaysAll Try.prog call){n:Nat}{t0:AV}{t1:AV}{h:AHeap}{rR:ARes}{hR:AHeap}(hF:disk_content_do call n t0 t1 h=some (rR,hR)):Says Try.prog 37 [t0,t1] h rR hR:=by
 unfold disk_content_do at hF;refine sO Try.func37 fun w0 m0=>wW [(0,t0),(1,t1)] (oG fun n1=>W.r (oA 6 t1 (oM 7 61 105 hF fun t7 hF=>oA 8 (.int .i64 0) (oV [(0,t0),(6,t1),(7,.int .i64 t7),(8,.int .i64 0)] (n1 ?_)))));obtain⟨k4,e4,hF⟩:=lett_some hF
 have J4:∀(h_5:AHeap),k4 h_5=some (rR,hR)→Go w0 m0 (Func.ntmps Try.f37) (Fin Try.prog Try.f37 w0 m0 rR hR .normal) [] [] h_5:=by
  intro h_5 hF;rw[e4] at hF;exact lY hF [] [] res_nil
 refine W.blockK (by kernel_rfl) (fun K3 n3 s3 o3 q3 p3=>W.loopK (by kernel_rfl) (fun I6 K6 b6 n6 e6 q6 p6=>?_))
 have L6:∀(m:Nat) (t8:Int) (h_7:AHeap),disk_content_do_L0 t0 t1 t7 k4 m t8 h_7=some (rR,hR)→Go w0 m0 (Func.ntmps Try.f37) I6 [(0,t0),(6,t1),(7,.int .i64 t7),(8,.int .i64 t8)] [] h_7:=by
  intro m
  induction m with
  |zero=>intro t8 h_7 hF;cases hF
  |succ m ih6=>
   intro t8 h_7 hF;rw[disk_content_do_L0_s] at hF;unfold disk_content_do_L0b at hF;refine b6 (oG fun n8=>W.r (oB 9 hF fun t9 hF=>oV [(0,t0),(6,t1),(7,.int .i64 t7),(8,.int .i64 t8),(9,.bool t9)] (n8 (W.s (fun K10 n10 e10 q10 p10=>?_)))))
   cases t9 with
   |true=>
    refine oT hF fun hF=>oZ (n10 (oG fun n11=>W.blockK (by kernel_rfl) (fun K12 n12 s12 o12 q12 p12=>oG fun n13=>W.r (oP 10 61 105 .i64 hF fun t10 hF=>oR 11 105 hF fun t11 hF=>oN 5 hF fun h_16 hF=>oW 105 (.agg t11) hF fun h_18 hF=>oV [(0,t0),(5,(newP h_7)),(6,t1),(7,.int .i64 t7),(8,.int .i64 t8)] (n13 (oG fun n20=>W.r (oA 12 (AV.ptr (AHeap.next h_7) 0) (oLi 13 103 hF fun t13 hF=>oV [(0,t0),(5,(newP h_7)),(6,t1),(7,.int .i64 t7),(8,.int .i64 t8),(13,.int .i64 t13)] (n20 (W.blockK (by kernel_rfl) (fun K23 n23 s23 o23 q23 p23=>oG fun n24=>W.r (oB 15 hF fun t15 hF=>oA 14 (.bool t15) (oV [(0,t0),(5,(newP h_7)),(6,t1),(7,.int .i64 t7),(8,.int .i64 t8),(13,.int .i64 t13),(14,.bool t15)] (n24 ?_))))))))))))));obtain⟨k26,e26,hF⟩:=lett_some hF
    have J26:∀(h_27:AHeap),k26 h_27=some (rR,hR)→Go w0 m0 (Func.ntmps Try.f37) (K23 .normal) [(0,t0),(6,t1),(7,.int .i64 t7),(8,.int .i64 t8)] [] h_27:=by
     intro h_27 hF;rw[e26] at hF;exact n23 (n12 (n11 (W.r (oI 46 .i64 hF fun t46 hF=>oA 8 (.int .i64 t46) (oV [(0,t0),(6,t1),(7,.int .i64 t7),(8,.int .i64 t46)] (n6 (gW _ (ih6 _ _ hF))))))))
    cases t15 with
    |true=>
     refine oT hF fun hF=>oG fun n29=>W.r (oA 16 t0 (oC0 17 hF fun t17 hF=>oF 18 60 0 hF fun t18 hF=>oW 4 (.bool true) hF fun h_32 hF=>oV [(0,t0),(5,(newP h_7)),(6,t1),(7,.int .i64 t7),(8,.int .i64 t8)] (n29 (y15 (by kernel_rfl) (hc.ok w0) (plan:=[0,1,2,3,4,5,6,7,8,9,10]) (by kernel_rfl) (by kernel_rfl) (by kernel_rfl) (WD.a 0 (some 19) t0 h_32 (WD.a 0 (some 20) t0 h_32 ?_))))));obtain⟨t21,e34,hF⟩:=obind_some hF;refine WD.b 0 (some 21) t21 h_32 (nil_chk (h:=h_32) e34) ?_;obtain⟨t22,e35,hF⟩:=obind_some hF;refine WD.b 0 (some 22) t22 h_32 (field_ptr (P:=Try.prog) (h:=h_32) (s:=60) (f:=1) (by kernel_rfl) e35) ?_;obtain⟨v23,e36,hF⟩:=obind_some hF;refine WD.b 1 (some 23) v23 h_32 (load_cell (P:=Try.prog) (h:=h_32) (t:=58) (by kernel_rfl) e36) (WD.a 0 (some 24) (AV.ptr (AHeap.next h_7) 1) h_32 ?_)
     replace hF:=obind_some hF;obtain⟨v25,e37,hF⟩:=hF
     replace hF:=obind_some hF;obtain⟨t25,c38,hF⟩:=hF
     have c38:=avStr_some c38;subst c38;refine WD.b 1 (some 25) (strA t25) h_32 (load_cell (P:=Try.prog) (h:=h_32) (t:=9) (by kernel_rfl) e37) ?_;obtain⟨v26,h_39,e40,hF⟩:=outK_some hF;refine WD.val (d:=(some 26)) (v:=v26) (h':=h_39) (by kernel_rfl) (by kernel_rfl) (Eq.trans (by kernel_rfl) e40) (k:=2) (by kernel_rfl) (fun _=>(by kernel_rfl)) (by decide) ?_;obtain⟨t27,e41,hF⟩:=obind_some hF;refine WD.b 0 (some 27) t27 h_39 (nil_chk (h:=h_39) e41) ?_;obtain⟨t28,e42,hF⟩:=obind_some hF;refine WD.b 0 (some 28) t28 h_39 (field_ptr (P:=Try.prog) (h:=h_39) (s:=60) (f:=1) (by kernel_rfl) e42) ?_;obtain⟨h_43,e44,hF⟩:=obind_some hF;exact WD.eff (h':=h_43) (by kernel_rfl) (by kernel_rfl) (Eq.trans (by kernel_rfl) (store_row (P:=Try.prog) (h:=h_39) (t:=58) (v:=v26) (by kernel_rfl) (by kernel_rfl) e44)) (k:=2) (by kernel_rfl) (fun _=>(by kernel_rfl)) (by decide) (WD.nil (gW [(0,t0),(6,t1),(7,.int .i64 t7),(8,.int .i64 t8)] (gW _ (J26 _ hF))))
    |false=>
     refine oU hF fun hF=>oG fun n45=>W.r (oB 30 hF fun t30 hF=>oA 29 (.bool t30) (oV [(0,t0),(5,(newP h_7)),(6,t1),(7,.int .i64 t7),(8,.int .i64 t8),(13,.int .i64 t13),(29,.bool t30)] (n45 ?_)));obtain⟨k47,e47,hF⟩:=lett_some hF
     have J47:∀(h_48:AHeap),k47 h_48=some (rR,hR)→Go w0 m0 (Func.ntmps Try.f37) (K23 .normal) [(0,t0),(6,t1),(7,.int .i64 t7),(8,.int .i64 t8)] [] h_48:=by
      intro h_48 hF;rw[e47] at hF;exact gW _ (J26 _ hF)
     cases t30 with
     |true=>
      refine oT hF fun hF=>y15 (by kernel_rfl) (hc.ok w0) (plan:=[0,1,2,3,4,5,6,7,8,9,10]) (by kernel_rfl) (by kernel_rfl) (by kernel_rfl) (WD.a 0 (some 31) t0 h_18 (WD.a 0 (some 32) t0 h_18 ?_));obtain⟨t33,e49,hF⟩:=obind_some hF;refine WD.b 0 (some 33) t33 h_18 (nil_chk (h:=h_18) e49) ?_;obtain⟨t34,e50,hF⟩:=obind_some hF;refine WD.b 0 (some 34) t34 h_18 (field_ptr (P:=Try.prog) (h:=h_18) (s:=60) (f:=1) (by kernel_rfl) e50) ?_;obtain⟨v35,e51,hF⟩:=obind_some hF;refine WD.b 1 (some 35) v35 h_18 (load_cell (P:=Try.prog) (h:=h_18) (t:=58) (by kernel_rfl) e51) (WD.a 0 (some 36) (AV.ptr (AHeap.next h_7) 2) h_18 ?_)
      replace hF:=obind_some hF;obtain⟨v37,e52,hF⟩:=hF
      replace hF:=obind_some hF;obtain⟨t37,c53,hF⟩:=hF
      have c53:=avInt_some c53;subst c53;refine WD.b 1 (some 37) (.int .i64 t37) h_18 (load_cell (P:=Try.prog) (h:=h_18) (t:=3) (by kernel_rfl) e52) ?_;obtain⟨v38,h_54,e55,hF⟩:=outK_some hF;refine WD.b 0 (some 38) v38 h_54 e55 ?_;obtain⟨t39,e56,hF⟩:=obind_some hF;refine WD.b 0 (some 39) t39 h_54 (nil_chk (h:=h_54) e56) ?_;obtain⟨t40,e57,hF⟩:=obind_some hF;refine WD.b 0 (some 40) t40 h_54 (field_ptr (P:=Try.prog) (h:=h_54) (s:=60) (f:=1) (by kernel_rfl) e57) ?_;obtain⟨h_58,e59,hF⟩:=obind_some hF;exact WD.eff (h':=h_58) (by kernel_rfl) (by kernel_rfl) (Eq.trans (by kernel_rfl) (store_row (P:=Try.prog) (h:=h_54) (t:=58) (v:=v38) (by kernel_rfl) (by kernel_rfl) e59)) (k:=2) (by kernel_rfl) (fun _=>(by kernel_rfl)) (by decide) (WD.nil (gW [(0,t0),(6,t1),(7,.int .i64 t7),(8,.int .i64 t8)] (gW _ (J47 _ hF))))
     |false=>
      refine oU hF fun hF=>oG fun n60=>W.r (oB 42 hF fun t42 hF=>oA 41 (.bool t42) (oV [(0,t0),(6,t1),(7,.int .i64 t7),(8,.int .i64 t8),(41,.bool t42)] (n60 ?_)));obtain⟨k62,e62,hF⟩:=lett_some hF
      have J62:∀(h_63:AHeap),k62 h_63=some (rR,hR)→Go w0 m0 (Func.ntmps Try.f37) (K23 .normal) [(0,t0),(6,t1),(7,.int .i64 t7),(8,.int .i64 t8)] [] h_63:=by
       intro h_63 hF;rw[e62] at hF;exact gW _ (J47 _ hF)
      cases t42 with
      |true=>
       exact oT hF fun hF=>W.r (oA 43 t0 (oA 44 (.agg ([.bool false,.nsl]:List AV)) (oC0 45 hF fun t45 hF=>oW 60 (.agg ([.bool false,.nsl]:List AV)) hF fun h_65 hF=>oV [(0,t0),(6,t1),(7,.int .i64 t7),(8,.int .i64 t8)] (gW _ (J62 _ hF)))))
      |false=>
       exact oU hF fun hF=>oZ (gW _ (J62 _ hF))
   |false=>
    exact oU hF fun hF=>W.exit (by kernel_rfl) (e10 (e6 (s3 (by kernel_rfl) (gW _ (J4 _ hF)))))
 exact gW _ (L6 _ _ _ hF)
noncomputable def disk_Disk_step(_:CallF)(_:Nat)(t0:AV)(h:AHeap):R:=obind (nilC t0) fun t3=>obind (fldP 161 t3) fun t4=>obind (ldCell h t4) fun v5=>obind (avInt .i64 v5) fun t5=>lett (IntKind.i64.wrap (t5+1)) fun (t6:Int)=>obind (nilC t0) fun t7=>obind (fldP 161 t7) fun t8=>obind (stRow h 1 [.int .i64 t6] t8) fun h_9=>obind (nilC t0) fun t10=>obind (fldP 160 t10) fun t11=>obind (ldCell h_9 t11) fun v12=>obind (avInt .i64 v12) fun t12=>lett (decide (t12>0)) fun (t13:Bool)=>lett (fun (h_18:AHeap)=>some (.ret (.tup []),h_18)) fun k17=>ifB t13 (obind (nilC t0) fun t15=>obind (fldP 160 t15) fun t16=>obind (ldCell h_9 t16) fun v17=>obind (avInt .i64 v17) fun t17=>lett (IntKind.i64.wrap (t17 - 1)) fun (t18:Int)=>obind (nilC t0) fun t19=>obind (fldP 160 t19) fun t20=>obind (stRow h_9 1 [.int .i64 t18] t20) fun h_26=>k17 h_26) (k17 h_9)
set_option maxHeartbeats 4000000 in
set_option maxRecDepth 20000 in
theorem disk_Disk_step_ok{call:CallF}(_:SaysAll Try.prog call){n:Nat}{t0:AV}{h:AHeap}{rR:ARes}{hR:AHeap}(hF:disk_Disk_step call n t0 h=some (rR,hR)):Says Try.prog 38 [t0] h rR hR:=by
 unfold disk_Disk_step at hF;refine sO Try.func38 fun w0 m0=>wW [(0,t0)] (oG fun n1=>W.r (oA 2 t0 (oC0 3 hF fun t3 hF=>oF 4 66 2 hF fun t4 hF=>oLi 5 3 hF fun t5 hF=>oI 6 .i64 hF fun t6 hF=>oC0 7 hF fun t7 hF=>oF 8 66 2 hF fun t8 hF=>oW 3 (.int .i64 t6) hF fun h_9 hF=>oV [(0,t0)] (n1 (oG fun n11=>W.r (oA 9 t0 (oC0 10 hF fun t10 hF=>oF 11 66 1 hF fun t11 hF=>oLi 12 3 hF fun t12 hF=>oB 13 hF fun t13 hF=>oV [(0,t0),(13,.bool t13)] (n11 ?_))))))));obtain⟨k17,e17,hF⟩:=lett_some hF
 have J17:∀(h_18:AHeap),k17 h_18=some (rR,hR)→Go w0 m0 (Func.ntmps Try.f38) (Fin Try.prog Try.f38 w0 m0 rR hR .normal) [] [] h_18:=by
  intro h_18 hF;rw[e17] at hF;exact lY hF [] [] res_nil
 cases t13 with
 |true=>
  exact oT hF fun hF=>W.r (oA 14 t0 (oC0 15 hF fun t15 hF=>oF 16 66 1 hF fun t16 hF=>oLi 17 3 hF fun t17 hF=>oI 18 .i64 hF fun t18 hF=>oC0 19 hF fun t19 hF=>oF 20 66 1 hF fun t20 hF=>oW 3 (.int .i64 t18) hF fun h_26 hF=>oV [] (gW _ (J17 _ hF))))
 |false=>
  exact oU hF fun hF=>oZ (gW _ (J17 _ hF))
noncomputable def disk_isFile(_:CallF)(_:Nat)(t0:Int)(h:AHeap):R:=lett (decide (t0≥0)) fun (t4:Bool)=>lett (fun (t8:Bool) (h_4:AHeap)=>some (.ret (.bool t8),h_4)) fun j8=>ifB t4 (lett (decide (t0<32)) fun (t7:Bool)=>j8 t7 h) (j8 false h)
set_option maxHeartbeats 4000000 in
set_option maxRecDepth 20000 in
theorem disk_isFile_ok{call:CallF}(_:SaysAll Try.prog call){n:Nat}{t0:Int}{h:AHeap}{rR:ARes}{hR:AHeap}(hF:disk_isFile call n t0 h=some (rR,hR)):Says Try.prog 35 [.int .i64 t0] h rR hR:=by
 unfold disk_isFile at hF;refine sO Try.func35 fun w0 m0=>wW [(0,.int .i64 t0)] (oG fun n1=>W.r (oA 2 (.bool false) (oV [(0,.int .i64 t0)] (n1 (W.s (fun K2 n2 e2 q2 p2=>W.r (oA 3 (.int .i64 t0) (oB 4 hF fun t4 hF=>oA 5 (.bool t4) ?_))))))));obtain⟨j8,e5,hF⟩:=lett_some hF
 have J6:∀(t8:Bool) (h_4:AHeap),j8 t8 h_4=some (rR,hR)→WL Try.prog w0 m0 (Func.ntmps Try.f35) (Code.ops (y6 (y3 (codeOf Try.f35)))) 6 K2 [(8,.bool t8)] [] h_4:=by
  intro t8 h_4 hF;rw[e5] at hF;exact oA 2 (.bool t8) (oV [(2,.bool t8)] (n2 (oY (lZ hF [.tmp 2] [.bool t8] (rT res_nil)))))
 cases t4 with
 |true=>
  replace hF:=ifB_t hF
  exact oA 6 (.int .i64 t0) (oB 7 hF fun t7 hF=>oA 8 (.bool t7) (lW _ (J6 _ _ hF)))
 |false=>
  replace hF:=ifB_f hF
  exact WL.o (some 6) (WL.o (some 7) (oA 8 (.bool false) (lW _ (J6 _ _ hF))))
noncomputable def disk_Disk_Read(call:CallF)(_:Nat)(t0:AV)(t1:Int)(h:AHeap):R:=callN (call 36 [t0,.int .i64 t1] h) fun r10 h_4=>obind (avInt .i64 r10) fun t10=>lett ((t10:Int) != 0) fun (t12:Bool)=>ifB t12 (some (.ret (.tup [strA ([]:Bytes),.int .i64 t10]),h_4)) (obind (nilC t0) fun t16=>obind (fldP 0 t16) fun t17=>obind (idxA 32 5 t17 t1) fun t18=>obind (fldP 2 t18) fun t19=>obind (nilC t19) fun t21=>obind (fldP 0 t21) fun t22=>obind (ldCell h_4 t22) fun v23=>obind (avBool v23) fun t23=>lett (!t23) fun (t24:Bool)=>ifB t24 (some (.ret (.tup [strA ([]:Bytes),.int .i64 4]),h_4)) (obind (nilC t19) fun t26=>obind (fldP 1 t26) fun t27=>obind (ldCell h_4 t27) fun v28=>outK (opConv Try.prog h_4 58 9 (some v28)) fun v29 h_27=>obind (avStr v29) fun t29=>some (.ret (.tup [strA t29,.int .i64 0]),h_27)))
set_option maxHeartbeats 4000000 in
set_option maxRecDepth 20000 in
theorem disk_Disk_Read_ok{call:CallF}(hc:SaysAll Try.prog call){n:Nat}{t0:AV}{t1:Int}{h:AHeap}{rR:ARes}{hR:AHeap}(hF:disk_Disk_Read call n t0 t1 h=some (rR,hR)):Says Try.prog 32 [t0,.int .i64 t1] h rR hR:=by
 unfold disk_Disk_Read at hF;refine sO Try.func32 fun w0 m0=>wW [(0,t0),(1,.int .i64 t1)] (oG fun n1=>W.r (oA 4 (strA ([]:Bytes)) (oA 5 (.int .i64 0) (oV [(0,t0),(1,.int .i64 t1)] (n1 (oH fun n2 q2=>oG fun n3=>W.r (oA 8 t0 (oA 9 (.int .i64 t1) (oCi hc 10 hF fun t10 h_4 hF=>oA 6 (.int .i64 t10) (oV [(0,t0),(1,.int .i64 t1),(6,.int .i64 t10)] (n3 (oG fun n7=>W.r (oA 11 (.int .i64 t10) (oB 12 hF fun t12 hF=>oV [(0,t0),(1,.int .i64 t1),(6,.int .i64 t10),(12,.bool t12)] (n7 ?_)))))))))))))))
 cases t12 with
 |true=>
  exact oT hF fun hF=>oG fun n9=>W.r (oA 13 (.int .i64 t10) (oA 4 (strA ([]:Bytes)) (oA 5 (.int .i64 t10) (oV [(4,strA ([]:Bytes)),(5,.int .i64 t10)] (n9 (oY (q2 (lZ hF [.tmp 4,.tmp 5] [strA ([]:Bytes),.int .i64 t10] (rT (rT res_nil))))))))))
 |false=>
  refine oU hF fun hF=>oZ (n2 (oG fun n10=>W.r (oA 14 t0 (oA 15 (.int .i64 t1) (oC0 16 hF fun t16 hF=>oF 17 66 0 hF fun t17 hF=>oQ 18 64 63 .i64 hF fun t18 hF=>oF 19 63 1 hF fun t19 hF=>oA 7 t19 (oV [(7,t19)] (n10 (oH fun n15 q15=>oG fun n16=>W.r (oA 20 t19 (oC0 21 hF fun t21 hF=>oF 22 60 0 hF fun t22 hF=>oLb 23 4 hF fun t23 hF=>oB 24 hF fun t24 hF=>oV [(7,t19),(24,.bool t24)] (n16 ?_)))))))))))
  cases t24 with
  |true=>
   exact oT hF fun hF=>oG fun n22=>W.r (oA 4 (strA ([]:Bytes)) (oA 5 (.int .i64 4) (oV [(4,strA ([]:Bytes)),(5,.int .i64 4)] (n22 (oY (q15 (lZ hF [.tmp 4,.tmp 5] [strA ([]:Bytes),.int .i64 4] (rT (rT res_nil)))))))))
  |false=>
   refine oU hF fun hF=>oZ (n15 (oG fun n23=>W.r (oA 25 t19 (oC0 26 hF fun t26 hF=>oF 27 60 1 hF fun t27 hF=>oL 28 58 hF fun v28 hF=>?_))))
   replace hF:=outK_some hF;obtain⟨v29,h_27,e28,hF⟩:=hF
   replace hF:=obind_some hF;obtain⟨t29,c29,hF⟩:=hF
   have c29:=avStr_some c29;subst c29;exact WL.b (some 29) (strA t29) h_27 e28 (oA 4 (strA t29) (oA 5 (.int .i64 0) (oV [(4,strA t29),(5,.int .i64 0)] (n23 (oY (lZ hF [.tmp 4,.tmp 5] [strA t29,.int .i64 0] (rT (rT res_nil))))))))
noncomputable def disk_Disk_Loose(call:CallF)(_:Nat)(t0:AV)(t1:Int)(h:AHeap):R:=outK (opBin Try.prog h .eql 23 true (some t0) (some AV.nilp)) fun v6 h_4=>obind (avBool v6) fun t6=>lett (fun (t11:Bool) (h_7:AHeap)=>ifB t11 (some (.ret (.int .i64 0),h_7)) (obind (nilC t0) fun t14=>obind (fldP 0 t14) fun t15=>obind (idxA 32 5 t15 t1) fun t16=>obind (fldP 4 t16) fun t17=>obind (ldCell h_7 t17) fun v18=>obind (lenL v18) fun t19=>some (.ret (.int .i64 t19),h_7))) fun j11=>ifB t6 (j11 true h_4) (callN (call 35 [.int .i64 t1] h_4) fun r9 h_18=>obind (avBool r9) fun t9=>lett (!t9) fun (t10:Bool)=>j11 t10 h_18)
set_option maxHeartbeats 4000000 in
set_option maxRecDepth 20000 in
theorem disk_Disk_Loose_ok{call:CallF}(hc:SaysAll Try.prog call){n:Nat}{t0:AV}{t1:Int}{h:AHeap}{rR:ARes}{hR:AHeap}(hF:disk_Disk_Loose call n t0 t1 h=some (rR,hR)):Says Try.prog 21 [t0,.int .i64 t1] h rR hR:=by
 unfold disk_Disk_Loose at hF;refine sO Try.func21 fun w0 m0=>wW [(0,t0),(1,.int .i64 t1)] (oG fun n1=>W.r (oA 4 (.int .i64 0) (oV [(0,t0),(1,.int .i64 t1)] (n1 (oH fun n2 q2=>W.s (fun K3 n3 e3 q3 p3=>W.r (oA 5 t0 ?_)))))))
 replace hF:=outK_some hF;obtain⟨v6,h_4,e5,hF⟩:=hF
 replace hF:=obind_some hF;obtain⟨t6,c6,hF⟩:=hF
 have c6:=avBool_some c6;subst c6;refine WL.b (some 6) (.bool t6) h_4 e5 (oA 7 (.bool t6) ?_);obtain⟨j11,e8,hF⟩:=lett_some hF
 have J9:∀(t11:Bool) (h_7:AHeap),j11 t11 h_7=some (rR,hR)→WL Try.prog w0 m0 (Func.ntmps Try.f21) (Code.ops (y6 (y6 (y3 (codeOf Try.f21))))) 7 K3 [(0,t0),(1,.int .i64 t1),(11,.bool t11)] [] h_7:=by
  intro t11 h_7 hF;rw[e8] at hF;refine oV [(0,t0),(1,.int .i64 t1),(11,.bool t11)] (n3 ?_)
  cases t11 with
  |true=>
   exact oT hF fun hF=>oG fun n10=>W.r (oA 4 (.int .i64 0) (oV [(4,.int .i64 0)] (n10 (oY (q2 (lZ hF [.tmp 4] [.int .i64 0] (rT res_nil)))))))
  |false=>
   exact oU hF fun hF=>oZ (n2 (oG fun n11=>W.r (oA 12 t0 (oA 13 (.int .i64 t1) (oC0 14 hF fun t14 hF=>oF 15 66 0 hF fun t15 hF=>oQ 16 64 63 .i64 hF fun t16 hF=>oF 17 63 2 hF fun t17 hF=>oL 18 61 hF fun v18 hF=>oM 19 61 105 hF fun t19 hF=>oA 4 (.int .i64 t19) (oV [(4,.int .i64 t19)] (n11 (oY (lZ hF [.tmp 4] [.int .i64 t19] (rT res_nil))))))))))
 cases t6 with
 |true=>
  replace hF:=ifB_t hF
  exact WL.o (some 8) (WL.o (some 9) (WL.o (some 10) (oA 11 (.bool true) (lW _ (J9 _ _ hF)))))
 |false=>
  replace hF:=ifB_f hF
  exact oA 8 (.int .i64 t1) (oCb hc 9 hF fun t9 h_18 hF=>oB 10 hF fun t10 hF=>oA 11 (.bool t10) (lW _ (J9 _ _ hF)))
noncomputable def disk_Disk_Crash_L0b(call:CallF)(t0:AV)(t1:AV)(t2:Int)(k11:AHeap→R)(self:Int→AHeap→R)(t11:Int)(h_20:AHeap):R:=lett (decide (t11<32)) fun (t12:Bool)=>ifB t12 (obind (lenL t1) fun t16=>lett (decide (t11<t16)) fun (t17:Bool)=>lett (fun (t8:Int) (h_33:AHeap)=>obind (nilC t0) fun t24=>obind (fldP 0 t24) fun t25=>obind (idxA 32 5 t25 t11) fun t26=>callN (call 30 [t26,.int .i64 t8,.int .i64 t2] h_33) fun _ h_37=>lett (IntKind.i64.wrap (t11+1)) fun (t30:Int)=>self t30 h_37) fun k32=>ifB t17 (obind (idxP 1 t1 t11) fun t20=>obind (ldCell h_20 t20) fun v21=>obind (avInt .i64 v21) fun t21=>k32 t21 h_20) (k32 0 h_20)) (k11 h_20)
noncomputable def disk_Disk_Crash_L0(call:CallF)(t0:AV)(t1:AV)(t2:Int)(k11:AHeap→R):Nat→Int→AHeap→R:=iterR (fun _ _=>none) (disk_Disk_Crash_L0b call t0 t1 t2 k11)
theorem disk_Disk_Crash_L0_s(call:CallF)(t0:AV)(t1:AV)(t2:Int)(k11:AHeap→R)(m:Nat):disk_Disk_Crash_L0 call t0 t1 t2 k11 (m+1)=disk_Disk_Crash_L0b call t0 t1 t2 k11 (disk_Disk_Crash_L0 call t0 t1 t2 k11 m):=rfl
noncomputable def disk_Disk_Crash(call:CallF)(n:Nat)(t0:AV)(t1:AV)(t2:Int)(h:AHeap):R:=outK (opBin Try.prog h .eql 23 true (some t0) (some AV.nilp)) fun v10 h_4=>obind (avBool v10) fun t10=>ifB t10 (some (.ret (.int .i64 1),h_4)) (lett (fun (h_12:AHeap)=>obind (nilC t0) fun t32=>obind (fldP 160 t32) fun t33=>obind (stRow h_12 1 [.int .i64 (-1)] t33) fun h_16=>some (.ret (.int .i64 0),h_16)) fun k11=>disk_Disk_Crash_L0 call t0 t1 t2 k11 n 0 h_4)
set_option maxHeartbeats 4000000 in
set_option maxRecDepth 20000 in
theorem disk_Disk_Crash_ok{call:CallF}(hc:SaysAll Try.prog call){n:Nat}{t0:AV}{t1:AV}{t2:Int}{h:AHeap}{rR:ARes}{hR:AHeap}(hF:disk_Disk_Crash call n t0 t1 t2 h=some (rR,hR)):Says Try.prog 14 [t0,t1,.int .i64 t2] h rR hR:=by
 unfold disk_Disk_Crash at hF;refine sO Try.func14 fun w0 m0=>wW [(0,t0),(1,t1),(2,.int .i64 t2)] (oG fun n1=>W.r (oA 6 (.int .i64 0) (oV [(0,t0),(1,t1),(2,.int .i64 t2)] (n1 (oH fun n2 q2=>oG fun n3=>W.r (oA 9 t0 ?_))))))
 replace hF:=outK_some hF;obtain⟨v10,h_4,e5,hF⟩:=hF
 replace hF:=obind_some hF;obtain⟨t10,c6,hF⟩:=hF
 have c6:=avBool_some c6;subst c6;refine WL.b (some 10) (.bool t10) h_4 e5 (oV [(0,t0),(1,t1),(2,.int .i64 t2),(10,.bool t10)] (n3 ?_))
 cases t10 with
 |true=>
  exact oT hF fun hF=>oG fun n7=>W.r (oA 6 (.int .i64 1) (oV [(6,.int .i64 1)] (n7 (oY (q2 (lZ hF [.tmp 6] [.int .i64 1] (rT res_nil)))))))
 |false=>
  refine oU hF fun hF=>oZ (n2 (W.s (fun K8 n8 e8 q8 p8=>oG fun n9=>W.r (oA 11 (.int .i64 0) (oV [(0,t0),(1,t1),(2,.int .i64 t2),(11,.int .i64 0)] (n9 ?_))))));obtain⟨k11,e11,hF⟩:=lett_some hF
  have J11:∀(h_12:AHeap),k11 h_12=some (rR,hR)→Go w0 m0 (Func.ntmps Try.f14) (K8 .normal) [(0,t0)] [] h_12:=by
   intro h_12 hF;rw[e11] at hF;exact n8 (oG fun n13=>W.r (oA 31 t0 (oC0 32 hF fun t32 hF=>oF 33 66 1 hF fun t33 hF=>oW 3 (.int .i64 (-1)) hF fun h_16 hF=>oV [] (n13 (oG fun n18=>W.r (oA 6 (.int .i64 0) (oV [(6,.int .i64 0)] (n18 (oY (lZ hF [.tmp 6] [.int .i64 0] (rT res_nil)))))))))))
  refine W.blockK (by kernel_rfl) (fun K10 n10 s10 o10 q10 p10=>W.loopK (by kernel_rfl) (fun I19 K19 b19 n19 e19 q19 p19=>?_))
  have L19:∀(m:Nat) (t11:Int) (h_20:AHeap),disk_Disk_Crash_L0 call t0 t1 t2 k11 m t11 h_20=some (rR,hR)→Go w0 m0 (Func.ntmps Try.f14) I19 [(0,t0),(1,t1),(2,.int .i64 t2),(11,.int .i64 t11)] [] h_20:=by
   intro m
   induction m with
   |zero=>intro t11 h_20 hF;cases hF
   |succ m ih19=>
    intro t11 h_20 hF;rw[disk_Disk_Crash_L0_s] at hF;unfold disk_Disk_Crash_L0b at hF;refine b19 (oG fun n21=>W.r (oB 12 hF fun t12 hF=>oV [(0,t0),(1,t1),(2,.int .i64 t2),(11,.int .i64 t11),(12,.bool t12)] (n21 (W.s (fun K23 n23 e23 q23 p23=>?_)))))
    cases t12 with
    |true=>
     refine oT hF fun hF=>oZ (n23 (oG fun n24=>W.blockK (by kernel_rfl) (fun K25 n25 s25 o25 q25 p25=>oG fun n26=>W.r (oA 13 (.int .i64 t11) (oA 7 (.int .i64 t11) (oV [(0,t0),(1,t1),(2,.int .i64 t2),(7,.int .i64 t11),(11,.int .i64 t11)] (n26 (oG fun n27=>W.r (oA 8 (.int .i64 0) (oV [(0,t0),(1,t1),(2,.int .i64 t2),(7,.int .i64 t11),(8,.int .i64 0),(11,.int .i64 t11)] (n27 (W.s (fun K28 n28 e28 q28 p28=>oG fun n29=>W.r (oA 14 (.int .i64 t11) (oA 15 t1 (oM 16 53 3 hF fun t16 hF=>oB 17 hF fun t17 hF=>oV [(0,t0),(1,t1),(2,.int .i64 t2),(7,.int .i64 t11),(8,.int .i64 0),(11,.int .i64 t11),(17,.bool t17)] (n29 ?_)))))))))))))))));obtain⟨k32,e32,hF⟩:=lett_some hF
     have J32:∀(t8:Int) (h_33:AHeap),k32 t8 h_33=some (rR,hR)→Go w0 m0 (Func.ntmps Try.f14) (K28 .normal) [(0,t0),(1,t1),(2,.int .i64 t2),(7,.int .i64 t11),(8,.int .i64 t8),(11,.int .i64 t11)] [] h_33:=by
      intro t8 h_33 hF;rw[e32] at hF;exact n28 (W.r (oA 22 t0 (oA 23 (.int .i64 t11) (oC0 24 hF fun t24 hF=>oF 25 66 0 hF fun t25 hF=>oQ 26 64 63 .i64 hF fun t26 hF=>oA 27 (.int .i64 t8) (oA 28 (.int .i64 t2) (oC hc (some 29) hF fun r29 h_37 hF=>oV [(0,t0),(1,t1),(2,.int .i64 t2),(11,.int .i64 t11)] (n25 (n24 (W.r (oI 30 .i64 hF fun t30 hF=>oA 11 (.int .i64 t30) (oV [(0,t0),(1,t1),(2,.int .i64 t2),(11,.int .i64 t30)] (n19 (gW _ (ih19 _ _ hF))))))))))))))
     cases t17 with
     |true=>
      exact oT hF fun hF=>W.r (oA 18 t1 (oA 19 (.int .i64 t11) (oP 20 53 3 .i64 hF fun t20 hF=>oLi 21 3 hF fun t21 hF=>oA 8 (.int .i64 t21) (oV [(0,t0),(1,t1),(2,.int .i64 t2),(7,.int .i64 t11),(8,.int .i64 t21),(11,.int .i64 t11)] (gW _ (J32 _ _ hF))))))
     |false=>
      exact oU hF fun hF=>oZ (gW _ (J32 _ _ hF))
    |false=>
     exact oU hF fun hF=>W.exit (by kernel_rfl) (e23 (e19 (s10 (by kernel_rfl) (gW _ (J11 _ hF)))))
  exact gW _ (L19 _ _ _ hF)
noncomputable def disk_file_crash(call:CallF)(_:Nat)(t0:AV)(t1:Int)(t2:Int)(h:AHeap):R:=
 lett (if 0>t1 then 0 else t1) fun (t8:Int)=>
 obind (nilC t0) fun t10=>
 obind (fldP 4 t10) fun t11=>
 obind (ldCell h t11) fun v12=>
 obind (lenL v12) fun t13=>
 lett (if t13<t8 then t13 else t8) fun (t14:Int)=>
 obind (nilC t0) fun t16=>
 obind (fldP 0 t16) fun t17=>
 obind (nilC t0) fun t19=>
 obind (fldP 4 t19) fun t20=>
 obind (ldCell h t20) fun v21=>
 outK (sliceA Try.prog h 61 v21 none (some (.int .i64 t14))) fun v23 h_14=>
 callN (call 37 [t17,v23] h_14) fun _ h_16=>
 obind (nilC t0) fun t27=>
 obind (fldP 4 t27) fun t28=>
 obind (ldCell h_16 t28) fun v29=>
 obind (lenL v29) fun t30=>
 lett (decide (t14<t30)) fun (t31:Bool)=>
 lett (fun (t35:Bool) (h_25:AHeap)=>
  lett (fun (h_29:AHeap)=>
   obind (nilC t0) fun t69=>
   obind (fldP 0 t69) fun t70=>
   callN (call 42 [t70] h_29) fun r71 h_33=>
   obind (avAgg r71) fun t71=>
   obind (nilC t0) fun t72=>
   obind (fldP 2 t72) fun t73=>
   obind (stRow h_33 2 t71 t73) fun h_38=>
   obind (nilC t0) fun t75=>
   obind (fldP 4 t75) fun t76=>
   obind (stRow h_38 1 (AV.cells AV.nsl) t76) fun h_42=>
   some (.ret (.tup []),h_42)) fun k28=>
  ifB t35
  (
   obind (nilC t0) fun t37=>
   obind (fldP 4 t37) fun t38=>
   obind (ldCell h_25 t38) fun v39=>
   obind (idxP 3 v39 t14) fun t41=>
   obind (ldRow h_25 3 t41) fun t42=>
   lett (newH h_25 105 [.int .i64 0,.str 0 0,.int .i64 0]) fun h_50=>
   obind (stRow h_50 3 t42 (newP h_25)) fun h_52=>
   obind (ldCell h_52 (AV.ptr (AHeap.next h_25) 0)) fun v44=>
   obind (avInt .i64 v44) fun t44=>
   lett ((t44:Int) == 0) fun (t45:Bool)=>
   lett (fun (t50:Bool) (h_58:AHeap)=>
    lett (fun (h_62:AHeap)=>
     k28 h_62) fun k61=>
    ifB t50
    (
     obind (ldCell h_58 (AV.ptr (AHeap.next h_25) 1)) fun v52=>
     obind (avStr v52) fun t52=>
     obind (ldCell h_58 (AV.ptr (AHeap.next h_25) 1)) fun v55=>
     obind (avStr v55) fun t55=>
     lett (IntKind.i64.wrap ((lenS t55) - 1)) fun (t57:Int)=>
     lett (if t57<t2 then t57 else t2) fun (t58:Int)=>
     obind (sliceS t52 0 t58) fun t59=>
     obind (stRow h_58 1 [strA t59] (AV.ptr (AHeap.next h_25) 1)) fun h_71=>
     obind (nilC t0) fun t62=>
     obind (fldP 0 t62) fun t63=>
     obind (ldRow h_71 3 (newP h_25)) fun t64=>
     outK (bldSl Try.prog h_71 61 1 [(0,.agg t64)]) fun v65 h_76=>
     callN (call 37 [t63,v65] h_76) fun _ h_78=>
     k61 h_78)
    (
     k61 h_58)) fun j50=>
   ifB t45
   (
    obind (ldCell h_52 (AV.ptr (AHeap.next h_25) 1)) fun v48=>
    obind (avStr v48) fun t48=>
    lett (!eqS t48 ([]:Bytes)) fun (t49:Bool)=>
    j50 t49 h_52)
   (
    j50 false h_52))
  (
   k28 h_25)) fun j35=>
 ifB t31
 (
  lett (decide (t2>0)) fun (t34:Bool)=>
  j35 t34 h_16)
 (
  j35 false h_16)
set_option maxHeartbeats 4000000 in
set_option maxRecDepth 20000 in
theorem disk_file_crash_ok{call:CallF}(hc:SaysAll Try.prog call){n:Nat}{t0:AV}{t1:Int}{t2:Int}{h:AHeap}{rR:ARes}{hR:AHeap}(hF:disk_file_crash call n t0 t1 t2 h=some (rR,hR)):Says Try.prog 30 [t0,.int .i64 t1,.int .i64 t2] h rR hR:=by
 unfold disk_file_crash at hF;refine sO Try.func30 fun w0 m0=>wW [(0,t0),(1,.int .i64 t1),(2,.int .i64 t2)] (oG fun n1=>W.r (oA 7 (.int .i64 t1) (oI 8 .i64 hF fun t8 hF=>oA 9 t0 (oC0 10 hF fun t10 hF=>oF 11 63 2 hF fun t11 hF=>oL 12 61 hF fun v12 hF=>oM 13 61 105 hF fun t13 hF=>oI 14 .i64 hF fun t14 hF=>oA 1 (.int .i64 t14) (oV [(0,t0),(1,.int .i64 t14),(2,.int .i64 t2)] (n1 (oG fun n8=>y15 (by kernel_rfl) (hc.ok w0) (plan:=[0,1,2,3,4,5,6,7,8,9]) (by kernel_rfl) (by kernel_rfl) (by kernel_rfl) (WD.a 0 (some 15) t0 h ?_))))))));obtain⟨t16,e9,hF⟩:=obind_some hF;refine WD.b 0 (some 16) t16 h (nil_chk (h:=h) e9) ?_;obtain⟨t17,e10,hF⟩:=obind_some hF;refine WD.b 0 (some 17) t17 h (field_ptr (P:=Try.prog) (h:=h) (s:=63) (f:=0) (by kernel_rfl) e10) (WD.a 0 (some 18) t0 h ?_);obtain⟨t19,e11,hF⟩:=obind_some hF;refine WD.b 0 (some 19) t19 h (nil_chk (h:=h) e11) ?_;obtain⟨t20,e12,hF⟩:=obind_some hF;refine WD.b 0 (some 20) t20 h (field_ptr (P:=Try.prog) (h:=h) (s:=63) (f:=2) (by kernel_rfl) e12) ?_;obtain⟨v21,e13,hF⟩:=obind_some hF;refine WD.b 1 (some 21) v21 h (load_cell (P:=Try.prog) (h:=h) (t:=61) (by kernel_rfl) e13) (WD.a 0 (some 22) (.int .i64 t14) h ?_);obtain⟨v23,h_14,e15,hF⟩:=outK_some hF;refine WD.b 0 (some 23) v23 h_14 e15 ?_;obtain⟨r24,h_16,e17,hF⟩:=callN_some hF;refine WD.call (d:=(some 24)) (by kernel_rfl) (by kernel_rfl) (by kernel_rfl) e17 (k:=2) (by kernel_rfl) (fun _=>(by kernel_rfl)) (by decide) (WD.nil (gW [(0,t0),(1,.int .i64 t14),(2,.int .i64 t2)] (n8 (W.s (fun K18 n18 e18 q18 p18=>W.s (fun K19 n19 e19 q19 p19=>W.r (oA 25 (.int .i64 t14) (oA 26 t0 (oC0 27 hF fun t27 hF=>oF 28 63 2 hF fun t28 hF=>oL 29 61 hF fun v29 hF=>oM 30 61 105 hF fun t30 hF=>oB 31 hF fun t31 hF=>oA 32 (.bool t31) ?_)))))))));obtain⟨j35,e26,hF⟩:=lett_some hF
 have J27:∀(t35:Bool) (h_25:AHeap),j35 t35 h_25=some (rR,hR)→WL Try.prog w0 m0 (Func.ntmps Try.f30) (Code.ops (y6 (y6 (y3 (y3 (codeOf Try.f30)))))) 11 K19 [(0,t0),(1,.int .i64 t14),(2,.int .i64 t2),(35,.bool t35)] [] h_25:=by
  intro t35 h_25 hF;rw[e26] at hF;refine oV [(0,t0),(1,.int .i64 t14),(2,.int .i64 t2),(35,.bool t35)] (n19 ?_);obtain⟨k28,e28,hF⟩:=lett_some hF
  have J28:∀(h_29:AHeap),k28 h_29=some (rR,hR)→Go w0 m0 (Func.ntmps Try.f30) (K18 .normal) [(0,t0)] [] h_29:=by
   intro h_29 hF;rw[e28] at hF;exact n18 (oG fun n30=>W.r (oA 67 t0 (oA 68 t0 (oC0 69 hF fun t69 hF=>oF 70 63 0 hF fun t70 hF=>oCa hc 71 hF fun t71 h_33 hF=>oC0 72 hF fun t72 hF=>oF 73 63 1 hF fun t73 hF=>oW 60 (.agg t71) hF fun h_38 hF=>oV [(0,t0)] (n30 (W.r (oA 74 t0 (oC0 75 hF fun t75 hF=>oF 76 63 2 hF fun t76 hF=>oW 61 AV.nsl hF fun h_42 hF=>oV [] (lY hF [] [] res_nil)))))))))
  cases t35 with
  |true=>
   refine oT hF fun hF=>oG fun n44=>W.r (oA 36 t0 (oC0 37 hF fun t37 hF=>oF 38 63 2 hF fun t38 hF=>oL 39 61 hF fun v39 hF=>oA 40 (.int .i64 t14) (oP 41 61 105 .i64 hF fun t41 hF=>oR 42 105 hF fun t42 hF=>oN 6 hF fun h_50 hF=>oW 105 (.agg t42) hF fun h_52 hF=>oV [(0,t0),(2,.int .i64 t2),(6,(newP h_25))] (n44 (W.s (fun K54 n54 e54 q54 p54=>W.r (oA 43 (AV.ptr (AHeap.next h_25) 0) (oLi 44 103 hF fun t44 hF=>oB 45 hF fun t45 hF=>oA 46 (.bool t45) ?_))))))));obtain⟨j50,e59,hF⟩:=lett_some hF
   have J60:∀(t50:Bool) (h_58:AHeap),j50 t50 h_58=some (rR,hR)→WL Try.prog w0 m0 (Func.ntmps Try.f30) (Code.ops (y6 (y3 (y6 (y3 (y6 (y3 (y3 (codeOf Try.f30))))))))) 8 K54 [(0,t0),(2,.int .i64 t2),(6,(newP h_25)),(50,.bool t50)] [] h_58:=by
    intro t50 h_58 hF;rw[e59] at hF;refine oV [(0,t0),(2,.int .i64 t2),(6,(newP h_25)),(50,.bool t50)] (n54 ?_);obtain⟨k61,e61,hF⟩:=lett_some hF
    have J61:∀(h_62:AHeap),k61 h_62=some (rR,hR)→Go w0 m0 (Func.ntmps Try.f30) (K18 .normal) [(0,t0)] [] h_62:=by
     intro h_62 hF;rw[e61] at hF;exact gW _ (J28 _ hF)
    cases t50 with
    |true=>
     refine oT hF fun hF=>oG fun n63=>W.r (oA 51 (AV.ptr (AHeap.next h_25) 1) (oLs 52 9 hF fun t52 hF=>oA 53 (.int .i64 t2) (oA 54 (AV.ptr (AHeap.next h_25) 1) (oLs 55 9 hF fun t55 hF=>oA 56 (.int .i64 (lenS t55)) (oI 57 .i64 hF fun t57 hF=>oI 58 .i64 hF fun t58 hF=>?_)))));obtain⟨t59,e70,hF⟩:=obind_some hF;refine WL.b (some 59) (strA t59) h_58 (slice_str (P:=Try.prog) (h:=h_58) (t:=9) (A:=none) (B:=(some (.int .i64 t58))) (by kernel_rfl) (.inr ⟨rfl,rfl⟩) (.inl ⟨_,rfl⟩) e70) (oA 60 (AV.ptr (AHeap.next h_25) 1) (oW 9 (strA t59) hF fun h_71 hF=>oV [(0,t0),(6,(newP h_25))] (n63 (y15 (by kernel_rfl) (hc.ok w0) (plan:=[0,1,2,3,4,5]) (by kernel_rfl) (by kernel_rfl) (by kernel_rfl) (WD.a 0 (some 61) t0 h_71 ?_)))));obtain⟨t62,e73,hF⟩:=obind_some hF;refine WD.b 0 (some 62) t62 h_71 (nil_chk (h:=h_71) e73) ?_;obtain⟨t63,e74,hF⟩:=obind_some hF;refine WD.b 0 (some 63) t63 h_71 (field_ptr (P:=Try.prog) (h:=h_71) (s:=63) (f:=0) (by kernel_rfl) e74) ?_;obtain⟨t64,e75,hF⟩:=obind_some hF;refine WD.b 1 (some 64) (.agg t64) h_71 (load_row (P:=Try.prog) (h:=h_71) (t:=105) (by kernel_rfl) (by kernel_rfl) e75) ?_;obtain⟨v65,h_76,e77,hF⟩:=outK_some hF;refine WD.val (d:=(some 65)) (v:=v65) (h':=h_76) (by kernel_rfl) (by kernel_rfl) (Eq.trans (by kernel_rfl) e77) (k:=2) (by kernel_rfl) (fun _=>(by kernel_rfl)) (by decide) ?_;obtain⟨r66,h_78,e79,hF⟩:=callN_some hF;exact WD.call (d:=(some 66)) (by kernel_rfl) (by kernel_rfl) (by kernel_rfl) e79 (k:=2) (by kernel_rfl) (fun _=>(by kernel_rfl)) (by decide) (WD.nil (gW [(0,t0)] (gW _ (J61 _ hF))))
    |false=>
     exact oU hF fun hF=>oZ (gW _ (J61 _ hF))
   cases t45 with
   |true=>
    replace hF:=ifB_t hF
    exact oA 47 (AV.ptr (AHeap.next h_25) 1) (oLs 48 9 hF fun t48 hF=>oB 49 hF fun t49 hF=>oA 50 (.bool t49) (lW _ (J60 _ _ hF)))
   |false=>
    replace hF:=ifB_f hF
    exact WL.o (some 47) (WL.o (some 48) (WL.o (some 49) (oA 50 (.bool false) (lW _ (J60 _ _ hF)))))
  |false=>
   exact oU hF fun hF=>oZ (gW _ (J28 _ hF))
 cases t31 with
 |true=>
  replace hF:=ifB_t hF
  exact oA 33 (.int .i64 t2) (oB 34 hF fun t34 hF=>oA 35 (.bool t34) (lW _ (J27 _ _ hF)))
 |false=>
  replace hF:=ifB_f hF
  exact WL.o (some 33) (WL.o (some 34) (oA 35 (.bool false) (lW _ (J27 _ _ hF))))
noncomputable def disk_content_copy(call:CallF)(_:Nat)(t0:AV)(h:AHeap):R:=
 lett (newH h 60 [.bool false,.nsl]) fun h_2=>
 obind (nilC t0) fun t4=>
 obind (fldP 0 t4) fun t5=>
 obind (ldCell h_2 t5) fun v6=>
 obind (avBool v6) fun t6=>
 obind (nilC t0) fun t8=>
 obind (fldP 1 t8) fun t9=>
 obind (ldCell h_2 t9) fun v10=>
 callN (call 55 [v10] h_2) fun r11 h_12=>
 chk (true&&(reLoad Try.prog h_12 4 t5 (.bool t6)&&true))<|
 obind (bldS Try.prog 60 [(0,.bool t6),(1,r11)]) fun t12=>
 obind (stRow h_12 2 t12 (newP h)) fun h_16=>
 obind (ldRow h_16 2 (newP h)) fun w2=>
 some (.ret (.agg w2),h_16)
set_option maxHeartbeats 4000000 in
set_option maxRecDepth 20000 in
theorem disk_content_copy_ok{call:CallF}(hc:SaysAll Try.prog call){n:Nat}{t0:AV}{h:AHeap}{rR:ARes}{hR:AHeap}(hF:disk_content_copy call n t0 h=some (rR,hR)):Says Try.prog 42 [t0] h rR hR:=by
 unfold disk_content_copy at hF;refine sO Try.func42 fun w0 m0=>wW [(0,t0)] (oG fun n1=>W.r (oN 2 hF fun h_2 hF=>oV [(0,t0),(2,(newP h))] (n1 (oG fun n4=>y15 (by kernel_rfl) (hc.ok w0) (plan:=[0,1,2,3,4,5,6,7,8,9,10]) (by kernel_rfl) (by kernel_rfl) (by kernel_rfl) (WD.a 0 (some 3) t0 h_2 ?_)))));obtain⟨t4,e5,hF⟩:=obind_some hF;refine WD.b 0 (some 4) t4 h_2 (nil_chk (h:=h_2) e5) ?_;obtain⟨t5,e6,hF⟩:=obind_some hF;refine WD.b 0 (some 5) t5 h_2 (field_ptr (P:=Try.prog) (h:=h_2) (s:=60) (f:=0) (by kernel_rfl) e6) ?_
 replace hF:=obind_some hF;obtain⟨v6,e7,hF⟩:=hF
 replace hF:=obind_some hF;obtain⟨t6,c8,hF⟩:=hF
 have c8:=avBool_some c8;subst c8;refine WD.b 1 (some 6) (.bool t6) h_2 (load_cell (P:=Try.prog) (h:=h_2) (t:=4) (by kernel_rfl) e7) (WD.a 0 (some 7) t0 h_2 ?_);obtain⟨t8,e9,hF⟩:=obind_some hF;refine WD.b 0 (some 8) t8 h_2 (nil_chk (h:=h_2) e9) ?_;obtain⟨t9,e10,hF⟩:=obind_some hF;refine WD.b 0 (some 9) t9 h_2 (field_ptr (P:=Try.prog) (h:=h_2) (s:=60) (f:=1) (by kernel_rfl) e10) ?_;obtain⟨v10,e11,hF⟩:=obind_some hF;refine WD.b 1 (some 10) v10 h_2 (load_cell (P:=Try.prog) (h:=h_2) (t:=58) (by kernel_rfl) e11) ?_;obtain⟨r11,h_12,e13,hF⟩:=callN_some hF;obtain⟨k14,hF⟩:=chk_some hF;refine WD.call (d:=(some 11)) (by kernel_rfl) (by kernel_rfl) (by kernel_rfl) e13 (k:=2) (by kernel_rfl) (fun _=>(Eq.trans (by kernel_rfl) k14)) (by decide) ?_;obtain⟨t12,e15,hF⟩:=obind_some hF;refine WD.val (d:=(some 12)) (v:=.agg t12) (h':=h_12) (by kernel_rfl) (by kernel_rfl) (bld_ok (by kernel_rfl) e15) (k:=0) (by kernel_rfl) (fun e=>absurd e (by decide)) (by decide) ?_;obtain⟨h_16,e17,hF⟩:=obind_some hF;refine WD.eff (h':=h_16) (by kernel_rfl) (by kernel_rfl) (Eq.trans (by kernel_rfl) (store_row (P:=Try.prog) (h:=h_12) (t:=60) (v:=(.agg t12)) (by kernel_rfl) (by kernel_rfl) e17)) (k:=2) (by kernel_rfl) (fun _=>(by kernel_rfl)) (by decide) (WD.nil (gW [(2,(newP h))] (n4 (oY ?_))));obtain⟨w2,e18,hF⟩:=obind_some hF;exact lZ hF [.cell 2 60] [.agg w2] (rY e18 res_nil)
noncomputable def slices_Clone___byte_byte_(_:CallF)(_:Nat)(t0:AV)(h:AHeap):R:=outK (opBin Try.prog h .eql 58 true (some t0) (some AV.nsl)) fun v4 h_4=>obind (avBool v4) fun t4=>ifB t4 (some (.ret (AV.nsl),h_4)) (outK (bldSl Try.prog h_4 58 0 []) fun v5 h_9=>outK (opAppend Try.prog h_9 58 58 v5 t0) fun v7 h_11=>some (.ret (v7),h_11))
set_option maxHeartbeats 4000000 in
set_option maxRecDepth 20000 in
theorem slices_Clone___byte_byte__ok{call:CallF}(_:SaysAll Try.prog call){n:Nat}{t0:AV}{h:AHeap}{rR:ARes}{hR:AHeap}(hF:slices_Clone___byte_byte_ call n t0 h=some (rR,hR)):Says Try.prog 55 [t0] h rR hR:=by
 unfold slices_Clone___byte_byte_ at hF;refine sO Try.func55 fun w0 m0=>wW [(0,t0)] (oG fun n1=>W.r (oA 2 AV.nsl (oV [(0,t0)] (n1 (oH fun n2 q2=>oG fun n3=>W.r (oA 3 t0 ?_))))))
 replace hF:=outK_some hF;obtain⟨v4,h_4,e5,hF⟩:=hF
 replace hF:=obind_some hF;obtain⟨t4,c6,hF⟩:=hF
 have c6:=avBool_some c6;subst c6;refine WL.b (some 4) (.bool t4) h_4 e5 (oV [(0,t0),(4,.bool t4)] (n3 ?_))
 cases t4 with
 |true=>
  exact oT hF fun hF=>oG fun n7=>W.r (oA 2 AV.nsl (oV [(2,AV.nsl)] (n7 (oY (q2 (lZ hF [.tmp 2] [AV.nsl] (rT res_nil)))))))
 |false=>
  exact oU hF fun hF=>oZ (n2 (oG fun n8=>W.r (oK 5 hF fun v5 h_9 hF=>oA 6 t0 (oK 7 hF fun v7 h_11 hF=>oA 2 v7 (oV [(2,v7)] (n8 (oY (lZ hF [.tmp 2] [v7] (rT res_nil)))))))))
noncomputable def sum_More_L0b(t1:Bytes)(h:AHeap)(k13:Int→AHeap→R)(self:Int→Int→AHeap→R)(t6_18:Int)(t13:Int)(h_19:AHeap):R:=lett (decide (t13<(lenS t1))) fun (t14:Bool)=>ifB t14 (obind (idxS t1 t13) fun t19=>lett (IntKind.u32.wrap t19) fun (t20:Int)=>lett (xorI .u32 t6_18 t20) fun (t21:Int)=>obind (shrI .u32 t21 4) fun t23=>obind (remI .u32 t21 16) fun t25=>obind (idxA 16 1 (newP h) t25) fun t26=>obind (ldCell h_19 t26) fun v27=>obind (avInt .u32 v27) fun t27=>lett (xorI .u32 t23 t27) fun (t28:Int)=>obind (shrI .u32 t28 4) fun t30=>obind (remI .u32 t28 16) fun t32=>obind (idxA 16 1 (newP h) t32) fun t33=>obind (ldCell h_19 t33) fun v34=>obind (avInt .u32 v34) fun t34=>lett (xorI .u32 t30 t34) fun (t35:Int)=>lett (IntKind.i64.wrap (t13+1)) fun (t36:Int)=>self t35 t36 h_19) (k13 t6_18 h_19)
noncomputable def sum_More_L0(t1:Bytes)(h:AHeap)(k13:Int→AHeap→R):Nat→Int→Int→AHeap→R:=iterR (fun _ _ _=>none) (sum_More_L0b t1 h k13)
theorem sum_More_L0_s(t1:Bytes)(h:AHeap)(k13:Int→AHeap→R)(m:Nat):sum_More_L0 t1 h k13 (m+1)=sum_More_L0b t1 h k13 (sum_More_L0 t1 h k13 m):=rfl
noncomputable def sum_More(_:CallF)(n:Nat)(t0:Int)(t1:Bytes)(h:AHeap):R:=obind (bldS Try.prog 151 [(0,.int .u32 0),(1,.int .u32 274646895),(2,.int .u32 549293790),(3,.int .u32 820201905),(4,.int .u32 1098587580),(5,.int .u32 1361435347),(6,.int .u32 1640403810),(7,.int .u32 1905808397),(8,.int .u32 2197175160),(9,.int .u32 2460548119),(10,.int .u32 2722870694),(11,.int .u32 2987750089),(12,.int .u32 3280807620),(13,.int .u32 3553878443),(14,.int .u32 3811616794),(15,.int .u32 4084100981)]) fun t8=>lett (newH h 151 [.int .u32 0,.int .u32 0,.int .u32 0,.int .u32 0,.int .u32 0,.int .u32 0,.int .u32 0,.int .u32 0,.int .u32 0,.int .u32 0,.int .u32 0,.int .u32 0,.int .u32 0,.int .u32 0,.int .u32 0,.int .u32 0]) fun h_4=>obind (stRow h_4 16 t8 (newP h)) fun h_6=>lett (comI .u32 t0) fun (t10:Int)=>lett (fun (t6:Int) (h_14:AHeap)=>lett (comI .u32 t6) fun (t38:Int)=>some (.ret (.int .u32 t38),h_14)) fun k13=>sum_More_L0 t1 h k13 n t10 0 h_6
set_option maxHeartbeats 4000000 in
set_option maxRecDepth 20000 in
theorem sum_More_ok{call:CallF}(_:SaysAll Try.prog call){n:Nat}{t0:Int}{t1:Bytes}{h:AHeap}{rR:ARes}{hR:AHeap}(hF:sum_More call n t0 t1 h=some (rR,hR)):Says Try.prog 79 [.int .u32 t0,strA t1] h rR hR:=by
 unfold sum_More at hF;refine sO Try.func79 fun w0 m0=>wW [(0,.int .u32 t0),(1,strA t1)] (oG fun n1=>W.r (oA 4 (.int .u32 0) (oV [(0,.int .u32 t0),(1,strA t1)] (n1 (oG fun n2=>W.r ?_)))));obtain⟨t8,e3,hF⟩:=obind_some hF;refine WL.val (d:=(some 8)) (v:=.agg t8) (h':=h) (by kernel_rfl) (by kernel_rfl) (bld_ok (by kernel_rfl) e3) (oN 5 hF fun h_4 hF=>oW 151 (.agg t8) hF fun h_6 hF=>oV [(0,.int .u32 t0),(1,strA t1),(5,(newP h))] (n2 (oG fun n8=>W.r (oA 9 (.int .u32 t0) (oI 10 .u32 hF fun t10 hF=>oA 6 (.int .u32 t10) (oV [(1,strA t1),(5,(newP h)),(6,.int .u32 t10)] (n8 (W.s (fun K10 n10 e10 q10 p10=>oG fun n11=>W.r (oA 11 (strA t1) (oA 12 (.int .i64 (lenS t1)) (oA 13 (.int .i64 0) (oV [(1,strA t1),(5,(newP h)),(6,.int .u32 t10),(12,.int .i64 (lenS t1)),(13,.int .i64 0)] (n11 ?_))))))))))))));obtain⟨k13,e13,hF⟩:=lett_some hF
 have J13:∀(t6:Int) (h_14:AHeap),k13 t6 h_14=some (rR,hR)→Go w0 m0 (Func.ntmps Try.f79) (K10 .normal) [(6,.int .u32 t6)] [] h_14:=by
  intro t6 h_14 hF;rw[e13] at hF;exact n10 (oG fun n15=>W.r (oA 37 (.int .u32 t6) (oI 38 .u32 hF fun t38 hF=>oA 4 (.int .u32 t38) (oV [(4,.int .u32 t38)] (n15 (oY (lZ hF [.tmp 4] [.int .u32 t38] (rT res_nil))))))))
 refine W.blockK (by kernel_rfl) (fun K12 n12 s12 o12 q12 p12=>W.loopK (by kernel_rfl) (fun I17 K17 b17 n17 e17 q17 p17=>?_))
 have L17:∀(m:Nat) (t6_18:Int) (t13:Int) (h_19:AHeap),sum_More_L0 t1 h k13 m t6_18 t13 h_19=some (rR,hR)→Go w0 m0 (Func.ntmps Try.f79) I17 [(1,strA t1),(5,(newP h)),(6,.int .u32 t6_18),(12,.int .i64 (lenS t1)),(13,.int .i64 t13)] [] h_19:=by
  intro m
  induction m with
  |zero=>intro t6_18 t13 h_19 hF;cases hF
  |succ m ih17=>
   intro t6_18 t13 h_19 hF;rw[sum_More_L0_s] at hF;unfold sum_More_L0b at hF;refine b17 (oG fun n20=>W.r (oB 14 hF fun t14 hF=>oV [(1,strA t1),(5,(newP h)),(6,.int .u32 t6_18),(12,.int .i64 (lenS t1)),(13,.int .i64 t13),(14,.bool t14)] (n20 (W.s (fun K22 n22 e22 q22 p22=>?_)))))
   cases t14 with
   |true=>
    refine oT hF fun hF=>oZ (n22 (oG fun n23=>W.blockK (by kernel_rfl) (fun K24 n24 s24 o24 q24 p24=>oG fun n25=>W.r (oA 15 (.int .i64 t13) (oA 7 (.int .i64 t13) (oV [(1,strA t1),(5,(newP h)),(6,.int .u32 t6_18),(7,.int .i64 t13),(12,.int .i64 (lenS t1)),(13,.int .i64 t13)] (n25 (oG fun n26=>W.r (oA 16 (.int .u32 t6_18) (oA 17 (strA t1) (oA 18 (.int .i64 t13) (oX 19 9 .i64 hF fun t19 hF=>oI 20 .u32 hF fun t20 hF=>oI 21 .u32 hF fun t21 hF=>oA 6 (.int .u32 t21) (oV [(1,strA t1),(5,(newP h)),(6,.int .u32 t21),(12,.int .i64 (lenS t1)),(13,.int .i64 t13)] (n26 (oG fun n30=>W.r (oA 22 (.int .u32 t21) ?_))))))))))))))));obtain⟨t23,e31,hF⟩:=obind_some hF;refine WL.b (some 23) (.int .u32 t23) h_19 (shr_int (P:=Try.prog) (h:=h_19) (t:=136) (k':=.u64) (lit:=true) e31) (oA 24 (.int .u32 t21) ?_);obtain⟨t25,e32,hF⟩:=obind_some hF;refine WL.b (some 25) (.int .u32 t25) h_19 (rem_int (P:=Try.prog) (h:=h_19) (t:=136) (lit:=true) e32) (oQ 26 151 136 .u32 hF fun t26 hF=>oLi 27 136 hF fun t27 hF=>oI 28 .u32 hF fun t28 hF=>oA 6 (.int .u32 t28) (oV [(1,strA t1),(5,(newP h)),(6,.int .u32 t28),(12,.int .i64 (lenS t1)),(13,.int .i64 t13)] (n30 (W.r (oA 29 (.int .u32 t28) ?_)))));obtain⟨t30,e37,hF⟩:=obind_some hF;refine WL.b (some 30) (.int .u32 t30) h_19 (shr_int (P:=Try.prog) (h:=h_19) (t:=136) (k':=.u64) (lit:=true) e37) (oA 31 (.int .u32 t28) ?_);obtain⟨t32,e38,hF⟩:=obind_some hF;exact WL.b (some 32) (.int .u32 t32) h_19 (rem_int (P:=Try.prog) (h:=h_19) (t:=136) (lit:=true) e38) (oQ 33 151 136 .u32 hF fun t33 hF=>oLi 34 136 hF fun t34 hF=>oI 35 .u32 hF fun t35 hF=>oA 6 (.int .u32 t35) (oV [(1,strA t1),(5,(newP h)),(6,.int .u32 t35),(12,.int .i64 (lenS t1)),(13,.int .i64 t13)] (n24 (n23 (W.r (oI 36 .i64 hF fun t36 hF=>oA 13 (.int .i64 t36) (oV [(1,strA t1),(5,(newP h)),(6,.int .u32 t35),(12,.int .i64 (lenS t1)),(13,.int .i64 t36)] (n17 (gW _ (ih17 _ _ _ hF))))))))))
   |false=>
    exact oU hF fun hF=>W.exit (by kernel_rfl) (e22 (e17 (s12 (by kernel_rfl) (gW _ (J13 _ _ hF)))))
 exact gW _ (L17 _ _ _ _ hF)
noncomputable def sum_Of(call:CallF)(_:Nat)(t0:Bytes)(h:AHeap):R:=callN (call 79 [.int .u32 0,strA t0] h) fun r4 h_3=>obind (avInt .u32 r4) fun t4=>some (.ret (.int .u32 t4),h_3)
set_option maxHeartbeats 4000000 in
set_option maxRecDepth 20000 in
theorem sum_Of_ok{call:CallF}(hc:SaysAll Try.prog call){n:Nat}{t0:Bytes}{h:AHeap}{rR:ARes}{hR:AHeap}(hF:sum_Of call n t0 h=some (rR,hR)):Says Try.prog 78 [strA t0] h rR hR:=by
 unfold sum_Of at hF;exact sO Try.func78 fun w0 m0=>wW [(0,strA t0)] (oG fun n1=>W.r (oA 2 (.int .u32 0) (oV [(0,strA t0)] (n1 (oG fun n2=>W.r (oA 3 (strA t0) (oCi hc 4 hF fun t4 h_3 hF=>oA 2 (.int .u32 t4) (oV [(2,.int .u32 t4)] (n2 (oY (lZ hF [.tmp 2] [.int .u32 t4] (rT res_nil))))))))))))
noncomputable def frame_summed(call:CallF)(_:Nat)(t0:Bytes)(h:AHeap):R:=callN (call 78 [strA t0] h) fun r5 h_3=>obind (avInt .u32 r5) fun t5=>callN (call 77 [.int .u32 t5] h_3) fun r6 h_6=>obind (avStr r6) fun t6=>obind (addS t0 t6) fun t7=>some (.ret (strA t7),h_6)
set_option maxHeartbeats 4000000 in
set_option maxRecDepth 20000 in
theorem frame_summed_ok{call:CallF}(hc:SaysAll Try.prog call){n:Nat}{t0:Bytes}{h:AHeap}{rR:ARes}{hR:AHeap}(hF:frame_summed call n t0 h=some (rR,hR)):Says Try.prog 76 [strA t0] h rR hR:=by
 unfold frame_summed at hF;refine sO Try.func76 fun w0 m0=>wW [(0,strA t0)] (oG fun n1=>W.r (oA 2 (strA ([]:Bytes)) (oV [(0,strA t0)] (n1 (oG fun n2=>W.r (oA 3 (strA t0) (oA 4 (strA t0) (oCi hc 5 hF fun t5 h_3 hF=>oCs hc 6 hF fun t6 h_6 hF=>?_))))))));obtain⟨t7,e9,hF⟩:=obind_some hF;exact WL.b (some 7) (strA t7) h_6 (add_str (P:=Try.prog) (h:=h_6) (t:=9) (lit:=false) e9) (oA 2 (strA t7) (oV [(2,strA t7)] (n2 (oY (lZ hF [.tmp 2] [strA t7] (rT res_nil))))))
noncomputable def frame_whole(call:CallF)(_:Nat)(t0:Bytes)(h:AHeap):R:=lett (IntKind.i64.wrap ((lenS t0) - 4)) fun (t6:Int)=>obind (sliceS t0 t6 (lenS t0)) fun t9=>obind (sliceS t0 0 t6) fun t14=>callN (call 59 [strA t9] h) fun r10 h_7=>callN (call 67 [r10] h_7) fun r11 h_9=>obind (avInt .u32 r11) fun t11=>callN (call 78 [strA t14] h_9) fun r15 h_12=>obind (avInt .u32 r15) fun t15=>lett ((t11:Int) == t15) fun (t16:Bool)=>some (.ret (.bool t16),h_12)
set_option maxHeartbeats 4000000 in
set_option maxRecDepth 20000 in
theorem frame_whole_ok{call:CallF}(hc:SaysAll Try.prog call){n:Nat}{t0:Bytes}{h:AHeap}{rR:ARes}{hR:AHeap}(hF:frame_whole call n t0 h=some (rR,hR)):Says Try.prog 68 [strA t0] h rR hR:=by
 unfold frame_whole at hF;refine sO Try.func68 fun w0 m0=>wW [(0,strA t0)] (oG fun n1=>W.r (oA 2 (.bool false) (oV [(0,strA t0)] (n1 (oG fun n2=>W.r (oA 4 (strA t0) (oA 5 (.int .i64 (lenS t0)) (oI 6 .i64 hF fun t6 hF=>oA 3 (.int .i64 t6) (oV [(0,strA t0),(3,.int .i64 t6)] (n2 (oG fun n4=>y15 (by kernel_rfl) (hc.ok w0) (plan:=[0,1,2,5,6,7,3,4,8,9,10]) (by kernel_rfl) (by kernel_rfl) (by kernel_rfl) (WD.a 0 (some 7) (strA t0) h (WD.a 0 (some 8) (.int .i64 t6) h ?_)))))))))))));obtain⟨t9,e5,hF⟩:=obind_some hF;refine WD.b 0 (some 9) (strA t9) h (slice_str (P:=Try.prog) (h:=h) (t:=9) (A:=(some (.int .i64 t6))) (B:=none) (by kernel_rfl) (.inl ⟨_,rfl⟩) (.inr ⟨rfl,rfl⟩) e5) (WD.a 0 (some 12) (strA t0) h (WD.a 0 (some 13) (.int .i64 t6) h ?_));obtain⟨t14,e6,hF⟩:=obind_some hF;refine WD.b 0 (some 14) (strA t14) h (slice_str (P:=Try.prog) (h:=h) (t:=9) (A:=none) (B:=(some (.int .i64 t6))) (by kernel_rfl) (.inr ⟨rfl,rfl⟩) (.inl ⟨_,rfl⟩) e6) ?_;obtain⟨r10,h_7,e8,hF⟩:=callN_some hF;refine WD.call (d:=(some 10)) (by kernel_rfl) (by kernel_rfl) (by kernel_rfl) e8 (k:=2) (by kernel_rfl) (fun _=>(by kernel_rfl)) (by decide) ?_
 replace hF:=callN_some hF;obtain⟨r11,h_9,e10,hF⟩:=hF
 replace hF:=obind_some hF;obtain⟨t11,c11,hF⟩:=hF
 have c11:=avInt_some c11;subst c11;refine WD.call (d:=(some 11)) (by kernel_rfl) (by kernel_rfl) (by kernel_rfl) e10 (k:=2) (by kernel_rfl) (fun _=>(by kernel_rfl)) (by decide) ?_
 replace hF:=callN_some hF;obtain⟨r15,h_12,e13,hF⟩:=hF
 replace hF:=obind_some hF;obtain⟨t15,c14,hF⟩:=hF
 have c14:=avInt_some c14;subst c14;refine WD.call (d:=(some 15)) (by kernel_rfl) (by kernel_rfl) (by kernel_rfl) e13 (k:=2) (by kernel_rfl) (fun _=>(by kernel_rfl)) (by decide) ?_;obtain⟨t16,e15,hF⟩:=lett_some hF;exact WD.val (d:=(some 16)) (v:=.bool t16) (h':=h_12) (by kernel_rfl) (by kernel_rfl) (val_of AV.bool e15 (by kernel_rfl)) (k:=0) (by kernel_rfl) (fun e=>absurd e (by decide)) (by decide) (WD.a 0 (some 2) (.bool t16) h_12 (WD.nil (gW [(2,.bool t16)] (n4 (oY (lZ hF [.tmp 2] [.bool t16] (rT res_nil)))))))
noncomputable def frame_Put(call:CallF)(_:Nat)(t0:Bytes)(h:AHeap):R:=lett (decide ((lenS t0)>4096)) fun (t6:Bool)=>ifB t6 (some (.ret (.tup [strA ([]:Bytes),.int .i64 3]),h)) (lett (IntKind.u32.wrap (lenS t0)) fun (t9:Int)=>callN (call 77 [.int .u32 t9] h) fun r10 h_8=>obind (avStr r10) fun t10=>callN (call 76 [strA t10] h_8) fun r11 h_11=>obind (avStr r11) fun t11=>callN (call 76 [strA t0] h_11) fun r13 h_14=>obind (avStr r13) fun t13=>obind (addS t11 t13) fun t14=>some (.ret (.tup [strA t14,.int .i64 0]),h_14))
set_option maxHeartbeats 4000000 in
set_option maxRecDepth 20000 in
theorem frame_Put_ok{call:CallF}(hc:SaysAll Try.prog call){n:Nat}{t0:Bytes}{h:AHeap}{rR:ARes}{hR:AHeap}(hF:frame_Put call n t0 h=some (rR,hR)):Says Try.prog 66 [strA t0] h rR hR:=by
 unfold frame_Put at hF;refine sO Try.func66 fun w0 m0=>wW [(0,strA t0)] (oG fun n1=>W.r (oA 2 (strA ([]:Bytes)) (oA 3 (.int .i64 0) (oV [(0,strA t0)] (n1 (oH fun n2 q2=>oG fun n3=>W.r (oA 4 (strA t0) (oA 5 (.int .i64 (lenS t0)) (oB 6 hF fun t6 hF=>oV [(0,strA t0),(6,.bool t6)] (n3 ?_))))))))))
 cases t6 with
 |true=>
  exact oT hF fun hF=>oG fun n5=>W.r (oA 2 (strA ([]:Bytes)) (oA 3 (.int .i64 3) (oV [(2,strA ([]:Bytes)),(3,.int .i64 3)] (n5 (oY (q2 (lZ hF [.tmp 2,.tmp 3] [strA ([]:Bytes),.int .i64 3] (rT (rT res_nil)))))))))
 |false=>
  refine oU hF fun hF=>oZ (n2 (oG fun n6=>W.r (oA 7 (strA t0) (oA 8 (.int .i64 (lenS t0)) (oI 9 .u32 hF fun t9 hF=>oCs hc 10 hF fun t10 h_8 hF=>oCs hc 11 hF fun t11 h_11 hF=>oA 12 (strA t0) (oCs hc 13 hF fun t13 h_14 hF=>?_))))));obtain⟨t14,e17,hF⟩:=obind_some hF;exact WL.b (some 14) (strA t14) h_14 (add_str (P:=Try.prog) (h:=h_14) (t:=9) (lit:=false) e17) (oA 2 (strA t14) (oA 3 (.int .i64 0) (oV [(2,strA t14),(3,.int .i64 0)] (n6 (oY (lZ hF [.tmp 2,.tmp 3] [strA t14,.int .i64 0] (rT (rT res_nil))))))))
noncomputable def frame_Take(call:CallF)(_:Nat)(t0:Bytes)(h:AHeap):R:=lett (decide ((lenS t0)<8)) fun (t9:Bool)=>ifB t9 (some (.ret (.tup [strA ([]:Bytes),.int .i64 0,.int .i64 30]),h)) (callN (call 59 [strA t0] h) fun r11 h_7=>callN (call 67 [r11] h_7) fun r12 h_9=>obind (avInt .u32 r12) fun t12=>lett (decide (t12>4096)) fun (t14:Bool)=>lett (fun (t20:Bool) (h_15:AHeap)=>ifB t20 (some (.ret (.tup [strA ([]:Bytes),.int .i64 0,.int .i64 7]),h_15)) (lett (IntKind.i64.wrap t12) fun (t22:Int)=>lett (IntKind.i64.wrap (8+t22)) fun (t23:Int)=>lett (IntKind.i64.wrap (t23+4)) fun (t24:Int)=>lett (decide ((lenS t0)<t24)) fun (t28:Bool)=>ifB t28 (some (.ret (.tup [strA ([]:Bytes),.int .i64 0,.int .i64 30]),h_15)) (obind (sliceS t0 8 t24) fun t31=>callN (call 68 [strA t31] h_15) fun r32 h_30=>obind (avBool r32) fun t32=>lett (!t32) fun (t33:Bool)=>ifB t33 (some (.ret (.tup [strA ([]:Bytes),.int .i64 0,.int .i64 7]),h_30)) (lett (IntKind.i64.wrap (t24 - 4)) fun (t36:Int)=>obind (sliceS t0 8 t36) fun t37=>some (.ret (.tup [strA t37,.int .i64 t24,.int .i64 0]),h_30))))) fun j20=>ifB t14 (j20 true h_9) (obind (sliceS t0 0 8) fun t17=>callN (call 68 [strA t17] h_9) fun r18 h_39=>obind (avBool r18) fun t18=>lett (!t18) fun (t19:Bool)=>j20 t19 h_39))
set_option maxHeartbeats 4000000 in
set_option maxRecDepth 20000 in
theorem frame_Take_ok{call:CallF}(hc:SaysAll Try.prog call){n:Nat}{t0:Bytes}{h:AHeap}{rR:ARes}{hR:AHeap}(hF:frame_Take call n t0 h=some (rR,hR)):Says Try.prog 58 [strA t0] h rR hR:=by
 unfold frame_Take at hF;refine sO Try.func58 fun w0 m0=>wW [(0,strA t0)] (oG fun n1=>W.r (oA 2 (strA ([]:Bytes)) (oA 3 (.int .i64 0) (oA 4 (.int .i64 0) (oV [(0,strA t0)] (n1 (oH fun n2 q2=>oG fun n3=>W.r (oA 7 (strA t0) (oA 8 (.int .i64 (lenS t0)) (oB 9 hF fun t9 hF=>oV [(0,strA t0),(9,.bool t9)] (n3 ?_)))))))))))
 cases t9 with
 |true=>
  exact oT hF fun hF=>oG fun n5=>W.r (oA 2 (strA ([]:Bytes)) (oA 3 (.int .i64 0) (oA 4 (.int .i64 30) (oV [(2,strA ([]:Bytes)),(3,.int .i64 0),(4,.int .i64 30)] (n5 (oY (q2 (lZ hF [.tmp 2,.tmp 3,.tmp 4] [strA ([]:Bytes),.int .i64 0,.int .i64 30] (rT (rT (rT res_nil)))))))))))
 |false=>
  refine oU hF fun hF=>oZ (n2 (oG fun n6=>W.r (oA 10 (strA t0) (oC hc (some 11) hF fun r11 h_7 hF=>oCi hc 12 hF fun t12 h_9 hF=>oA 5 (.int .u32 t12) (oV [(0,strA t0),(5,.int .u32 t12)] (n6 (oH fun n12 q12=>W.s (fun K13 n13 e13 q13 p13=>W.r (oA 13 (.int .u32 t12) (oB 14 hF fun t14 hF=>oA 15 (.bool t14) ?_))))))))));obtain⟨j20,e16,hF⟩:=lett_some hF
  have J17:∀(t20:Bool) (h_15:AHeap),j20 t20 h_15=some (rR,hR)→WL Try.prog w0 m0 (Func.ntmps Try.f58) (Code.ops (y6 (y6 (y3 (y3 (y3 (codeOf Try.f58))))))) 8 K13 [(0,strA t0),(5,.int .u32 t12),(20,.bool t20)] [] h_15:=by
   intro t20 h_15 hF;rw[e16] at hF;refine oV [(0,strA t0),(5,.int .u32 t12),(20,.bool t20)] (n13 ?_)
   cases t20 with
   |true=>
    exact oT hF fun hF=>oG fun n18=>W.r (oA 2 (strA ([]:Bytes)) (oA 3 (.int .i64 0) (oA 4 (.int .i64 7) (oV [(2,strA ([]:Bytes)),(3,.int .i64 0),(4,.int .i64 7)] (n18 (oY (q12 (lZ hF [.tmp 2,.tmp 3,.tmp 4] [strA ([]:Bytes),.int .i64 0,.int .i64 7] (rT (rT (rT res_nil)))))))))))
   |false=>
    refine oU hF fun hF=>oZ (n12 (oG fun n19=>W.r (oA 21 (.int .u32 t12) (oI 22 .i64 hF fun t22 hF=>oI 23 .i64 hF fun t23 hF=>oI 24 .i64 hF fun t24 hF=>oA 6 (.int .i64 t24) (oV [(0,strA t0),(6,.int .i64 t24)] (n19 (oH fun n23 q23=>oG fun n24=>W.r (oA 25 (strA t0) (oA 26 (.int .i64 (lenS t0)) (oA 27 (.int .i64 t24) (oB 28 hF fun t28 hF=>oV [(0,strA t0),(6,.int .i64 t24),(28,.bool t28)] (n24 ?_))))))))))))
    cases t28 with
    |true=>
     exact oT hF fun hF=>oG fun n26=>W.r (oA 2 (strA ([]:Bytes)) (oA 3 (.int .i64 0) (oA 4 (.int .i64 30) (oV [(2,strA ([]:Bytes)),(3,.int .i64 0),(4,.int .i64 30)] (n26 (oY (q23 (lZ hF [.tmp 2,.tmp 3,.tmp 4] [strA ([]:Bytes),.int .i64 0,.int .i64 30] (rT (rT (rT res_nil)))))))))))
    |false=>
     refine oU hF fun hF=>oZ (n23 (oH fun n27 q27=>oG fun n28=>W.r (oA 29 (strA t0) (oA 30 (.int .i64 t24) ?_))));obtain⟨t31,e29,hF⟩:=obind_some hF;refine WL.b (some 31) (strA t31) h_15 (slice_str (P:=Try.prog) (h:=h_15) (t:=9) (A:=(some (.int .i64 8))) (B:=(some (.int .i64 t24))) (by kernel_rfl) (.inl ⟨_,rfl⟩) (.inl ⟨_,rfl⟩) e29) (oCb hc 32 hF fun t32 h_30 hF=>oB 33 hF fun t33 hF=>oV [(0,strA t0),(6,.int .i64 t24),(33,.bool t33)] (n28 ?_))
     cases t33 with
     |true=>
      exact oT hF fun hF=>oG fun n34=>W.r (oA 2 (strA ([]:Bytes)) (oA 3 (.int .i64 0) (oA 4 (.int .i64 7) (oV [(2,strA ([]:Bytes)),(3,.int .i64 0),(4,.int .i64 7)] (n34 (oY (q27 (lZ hF [.tmp 2,.tmp 3,.tmp 4] [strA ([]:Bytes),.int .i64 0,.int .i64 7] (rT (rT (rT res_nil)))))))))))
     |false=>
      refine oU hF fun hF=>oZ (n27 (oG fun n35=>W.r (oA 34 (strA t0) (oA 35 (.int .i64 t24) (oI 36 .i64 hF fun t36 hF=>?_)))));obtain⟨t37,e37,hF⟩:=obind_some hF;exact WL.b (some 37) (strA t37) h_30 (slice_str (P:=Try.prog) (h:=h_30) (t:=9) (A:=(some (.int .i64 8))) (B:=(some (.int .i64 t36))) (by kernel_rfl) (.inl ⟨_,rfl⟩) (.inl ⟨_,rfl⟩) e37) (oA 38 (.int .i64 t24) (oA 2 (strA t37) (oA 3 (.int .i64 t24) (oA 4 (.int .i64 0) (oV [(2,strA t37),(3,.int .i64 t24),(4,.int .i64 0)] (n35 (oY (lZ hF [.tmp 2,.tmp 3,.tmp 4] [strA t37,.int .i64 t24,.int .i64 0] (rT (rT (rT res_nil)))))))))))
  cases t14 with
  |true=>
   replace hF:=ifB_t hF
   exact WL.o (some 16) (WL.o (some 17) (WL.o (some 18) (WL.o (some 19) (oA 20 (.bool true) (lW _ (J17 _ _ hF))))))
  |false=>
   replace hF:=ifB_f hF
   refine oA 16 (strA t0) ?_;obtain⟨t17,e38,hF⟩:=obind_some hF;exact WL.b (some 17) (strA t17) h_9 (slice_str (P:=Try.prog) (h:=h_9) (t:=9) (A:=none) (B:=(some (.int .i64 8))) (by kernel_rfl) (.inr ⟨rfl,rfl⟩) (.inl ⟨_,rfl⟩) e38) (oCb hc 18 hF fun t18 h_39 hF=>oB 19 hF fun t19 hF=>oA 20 (.bool t19) (lW _ (J17 _ _ hF)))
noncomputable def frame_All(_:CallF)(_:Nat)(t0:Bytes)(h:AHeap):R:=lett (newH h 9 [strA t0]) fun h_2=>some (.ret (AV.fn 57 [] [(newP h)]),h_2)
set_option maxHeartbeats 4000000 in
set_option maxRecDepth 20000 in
theorem frame_All_ok{call:CallF}(_:SaysAll Try.prog call){n:Nat}{t0:Bytes}{h:AHeap}{rR:ARes}{hR:AHeap}(hF:frame_All call n t0 h=some (rR,hR)):Says Try.prog 45 [strA t0] h rR hR:=by
 unfold frame_All at hF;exact sO Try.func45 fun w0 m0=>wW [(0,strA t0)] (oG fun n1=>W.r (oN 1 hF fun h_2 hF=>oA 2 AV.nfn (oV [(1,(newP h))] (n1 (oG fun n4=>W.r (oA 3 (AV.fn 57 [] [(newP h)]) (oA 2 (AV.fn 57 [] [(newP h)]) (oV [(2,(AV.fn 57 [] [(newP h)]))] (n4 (oY (lZ hF [.tmp 2] [(AV.fn 57 [] [(newP h)])] (rT res_nil))))))))))))
noncomputable def wire_U32(call:CallF)(_:Nat)(t0:Int)(h:AHeap):R:=lett (IntKind.u64.wrap t0) fun (t4:Int)=>callN (call 74 [.int .u64 t4,.int .i64 4] h) fun r5 h_4=>obind (avStr r5) fun t5=>some (.ret (strA t5),h_4)
set_option maxHeartbeats 4000000 in
set_option maxRecDepth 20000 in
theorem wire_U32_ok{call:CallF}(hc:SaysAll Try.prog call){n:Nat}{t0:Int}{h:AHeap}{rR:ARes}{hR:AHeap}(hF:wire_U32 call n t0 h=some (rR,hR)):Says Try.prog 77 [.int .u32 t0] h rR hR:=by
 unfold wire_U32 at hF;exact sO Try.func77 fun w0 m0=>wW [(0,.int .u32 t0)] (oG fun n1=>W.r (oA 2 (strA ([]:Bytes)) (oV [(0,.int .u32 t0)] (n1 (oG fun n2=>W.r (oA 3 (.int .u32 t0) (oI 4 .u64 hF fun t4 hF=>oCs hc 5 hF fun t5 h_4 hF=>oA 2 (strA t5) (oV [(2,strA t5)] (n2 (oY (lZ hF [.tmp 2] [strA t5] (rT res_nil))))))))))))
noncomputable def wire_U64(call:CallF)(_:Nat)(t0:Int)(h:AHeap):R:=callN (call 74 [.int .u64 t0,.int .i64 8] h) fun r4 h_3=>obind (avStr r4) fun t4=>some (.ret (strA t4),h_3)
set_option maxHeartbeats 4000000 in
set_option maxRecDepth 20000 in
theorem wire_U64_ok{call:CallF}(hc:SaysAll Try.prog call){n:Nat}{t0:Int}{h:AHeap}{rR:ARes}{hR:AHeap}(hF:wire_U64 call n t0 h=some (rR,hR)):Says Try.prog 64 [.int .u64 t0] h rR hR:=by
 unfold wire_U64 at hF;exact sO Try.func64 fun w0 m0=>wW [(0,.int .u64 t0)] (oG fun n1=>W.r (oA 2 (strA ([]:Bytes)) (oV [(0,.int .u64 t0)] (n1 (oG fun n2=>W.r (oA 3 (.int .u64 t0) (oCs hc 4 hF fun t4 h_3 hF=>oA 2 (strA t4) (oV [(2,strA t4)] (n2 (oY (lZ hF [.tmp 2] [strA t4] (rT res_nil))))))))))))
noncomputable def wire_New(_:CallF)(_:Nat)(t0:Bytes)(h:AHeap):R:=outK (opBox h 140 (some (.agg ([strA t0,.int .i64 0,.int .i64 0,.int .i64 0]:List AV)))) fun v5 h_3=>some (.ret (v5),h_3)
set_option maxHeartbeats 4000000 in
set_option maxRecDepth 20000 in
theorem wire_New_ok{call:CallF}(_:SaysAll Try.prog call){n:Nat}{t0:Bytes}{h:AHeap}{rR:ARes}{hR:AHeap}(hF:wire_New call n t0 h=some (rR,hR)):Says Try.prog 59 [strA t0] h rR hR:=by
 unfold wire_New at hF;exact sO Try.func59 fun w0 m0=>wW [(0,strA t0)] (oG fun n1=>W.r (oA 2 AV.nilp (oV [(0,strA t0)] (n1 (oG fun n2=>W.r (oA 3 (strA t0) (oA 4 (.agg ([strA t0,.int .i64 0,.int .i64 0,.int .i64 0]:List AV)) (oK 5 hF fun v5 h_3 hF=>oA 2 v5 (oV [(2,v5)] (n2 (oY (lZ hF [.tmp 2] [v5] (rT res_nil)))))))))))))
noncomputable def wire_number_L0b(v8:AV)(k9:AHeap→R)(self:Int→Int→AHeap→R)(t0_16:Int)(t6:Int)(h_17:AHeap):R:=lett (decide (t6≥0)) fun (t12:Bool)=>ifB t12 (lett (IntKind.u8.wrap t0_16) fun (t18:Int)=>obind (idxP 1 v8 t6) fun t19=>obind (stRow h_17 1 [.int .u8 t18] t19) fun h_26=>obind (shrI .u64 t0_16 8) fun t21=>lett (IntKind.i64.wrap (t6 - 1)) fun (t14:Int)=>self t21 t14 h_26) (k9 h_17)
noncomputable def wire_number_L0(v8:AV)(k9:AHeap→R):Nat→Int→Int→AHeap→R:=iterR (fun _ _ _=>none) (wire_number_L0b v8 k9)
theorem wire_number_L0_s(v8:AV)(k9:AHeap→R)(m:Nat):wire_number_L0 v8 k9 (m+1)=wire_number_L0b v8 k9 (wire_number_L0 v8 k9 m):=rfl
noncomputable def wire_number(_:CallF)(n:Nat)(t0:Int)(t1:Int)(h:AHeap):R:=outK (opMakeSlice Try.prog h 58 (some (.int .i64 t1)) (some (.int .i64 t1))) fun v8 h_3=>lett (IntKind.i64.wrap (t1 - 1)) fun (t10:Int)=>lett (fun (h_10:AHeap)=>outK (opConv Try.prog h_10 58 9 (some v8)) fun v23 h_12=>obind (avStr v23) fun t23=>some (.ret (strA t23),h_12)) fun k9=>wire_number_L0 v8 k9 n t0 t10 h_3
set_option maxHeartbeats 4000000 in
set_option maxRecDepth 20000 in
theorem wire_number_ok{call:CallF}(_:SaysAll Try.prog call){n:Nat}{t0:Int}{t1:Int}{h:AHeap}{rR:ARes}{hR:AHeap}(hF:wire_number call n t0 t1 h=some (rR,hR)):Says Try.prog 74 [.int .u64 t0,.int .i64 t1] h rR hR:=by
 unfold wire_number at hF;refine sO Try.func74 fun w0 m0=>wW [(0,.int .u64 t0),(1,.int .i64 t1)] (oG fun n1=>W.r (oA 4 (strA ([]:Bytes)) (oV [(0,.int .u64 t0),(1,.int .i64 t1)] (n1 (oG fun n2=>W.r (oA 7 (.int .i64 t1) (oK 8 hF fun v8 h_3 hF=>oA 5 v8 (oV [(0,.int .u64 t0),(1,.int .i64 t1),(5,v8)] (n2 (W.s (fun K5 n5 e5 q5 p5=>oG fun n6=>W.r (oA 9 (.int .i64 t1) (oI 10 .i64 hF fun t10 hF=>oA 6 (.int .i64 t10) (oV [(0,.int .u64 t0),(5,v8),(6,.int .i64 t10)] (n6 ?_)))))))))))))));obtain⟨k9,e9,hF⟩:=lett_some hF
 have J9:∀(h_10:AHeap),k9 h_10=some (rR,hR)→Go w0 m0 (Func.ntmps Try.f74) (K5 .normal) [(5,v8)] [] h_10:=by
  intro h_10 hF;rw[e9] at hF;refine n5 (oG fun n11=>W.r (oA 22 v8 ?_))
  replace hF:=outK_some hF;obtain⟨v23,h_12,e13,hF⟩:=hF
  replace hF:=obind_some hF;obtain⟨t23,c14,hF⟩:=hF
  have c14:=avStr_some c14;subst c14;exact WL.b (some 23) (strA t23) h_12 e13 (oA 4 (strA t23) (oV [(4,strA t23)] (n11 (oY (lZ hF [.tmp 4] [strA t23] (rT res_nil))))))
 refine W.blockK (by kernel_rfl) (fun K8 n8 s8 o8 q8 p8=>W.loopK (by kernel_rfl) (fun I15 K15 b15 n15 e15 q15 p15=>?_))
 have L15:∀(m:Nat) (t0_16:Int) (t6:Int) (h_17:AHeap),wire_number_L0 v8 k9 m t0_16 t6 h_17=some (rR,hR)→Go w0 m0 (Func.ntmps Try.f74) I15 [(0,.int .u64 t0_16),(5,v8),(6,.int .i64 t6)] [] h_17:=by
  intro m
  induction m with
  |zero=>intro t0_16 t6 h_17 hF;cases hF
  |succ m ih15=>
   intro t0_16 t6 h_17 hF;rw[wire_number_L0_s] at hF;unfold wire_number_L0b at hF;refine b15 (W.s (fun K18 n18 e18 q18 p18=>oG fun n19=>W.r (oA 11 (.int .i64 t6) (oB 12 hF fun t12 hF=>oV [(0,.int .u64 t0_16),(5,v8),(6,.int .i64 t6),(12,.bool t12)] (n19 ?_)))))
   cases t12 with
   |true=>
    refine oT hF fun hF=>oZ (n18 (oG fun n21=>W.blockK (by kernel_rfl) (fun K22 n22 s22 o22 q22 p22=>oG fun n23=>W.r (oA 15 v8 (oA 16 (.int .i64 t6) (oA 17 (.int .u64 t0_16) (oI 18 .u8 hF fun t18 hF=>oP 19 58 5 .i64 hF fun t19 hF=>oW 5 (.int .u8 t18) hF fun h_26 hF=>oV [(0,.int .u64 t0_16),(5,v8),(6,.int .i64 t6)] (n23 (W.r (oA 20 (.int .u64 t0_16) ?_))))))))));obtain⟨t21,e28,hF⟩:=obind_some hF;exact WL.b (some 21) (.int .u64 t21) h_26 (shr_int (P:=Try.prog) (h:=h_26) (t:=124) (k':=.u64) (lit:=true) e28) (oA 0 (.int .u64 t21) (oV [(0,.int .u64 t21),(5,v8),(6,.int .i64 t6)] (n22 (n21 (W.r (oA 13 (.int .i64 t6) (oI 14 .i64 hF fun t14 hF=>oA 6 (.int .i64 t14) (oV [(0,.int .u64 t21),(5,v8),(6,.int .i64 t14)] (n15 (gW _ (ih15 _ _ _ hF)))))))))))
   |false=>
    exact oU hF fun hF=>W.exit (by kernel_rfl) (e18 (e15 (s8 (by kernel_rfl) (gW _ (J9 _ hF)))))
 exact gW _ (L15 _ _ _ _ hF)
noncomputable def wire_length(call:CallF)(_:Nat)(t0:Bytes)(h:AHeap):R:=lett (IntKind.u32.wrap (lenS t0)) fun (t5:Int)=>callN (call 77 [.int .u32 t5] h) fun r6 h_4=>obind (avStr r6) fun t6=>some (.ret (strA t6),h_4)
set_option maxHeartbeats 4000000 in
set_option maxRecDepth 20000 in
theorem wire_length_ok{call:CallF}(hc:SaysAll Try.prog call){n:Nat}{t0:Bytes}{h:AHeap}{rR:ARes}{hR:AHeap}(hF:wire_length call n t0 h=some (rR,hR)):Says Try.prog 75 [strA t0] h rR hR:=by
 unfold wire_length at hF;exact sO Try.func75 fun w0 m0=>wW [(0,strA t0)] (oG fun n1=>W.r (oA 2 (strA ([]:Bytes)) (oV [(0,strA t0)] (n1 (oG fun n2=>W.r (oA 3 (strA t0) (oA 4 (.int .i64 (lenS t0)) (oI 5 .u32 hF fun t5 hF=>oCs hc 6 hF fun t6 h_4 hF=>oA 2 (strA t6) (oV [(2,strA t6)] (n2 (oY (lZ hF [.tmp 2] [strA t6] (rT res_nil)))))))))))))
noncomputable def wire_Text(call:CallF)(_:Nat)(t0:Bytes)(h:AHeap):R:=lett (decide ((lenS t0)>1048576)) fun (t6:Bool)=>ifB t6 (some (.ret (.tup [strA ([]:Bytes),.int .i64 3]),h)) (callN (call 75 [strA t0] h) fun r8 h_7=>obind (avStr r8) fun t8=>obind (addS t8 t0) fun t10=>some (.ret (.tup [strA t10,.int .i64 0]),h_7))
set_option maxHeartbeats 4000000 in
set_option maxRecDepth 20000 in
theorem wire_Text_ok{call:CallF}(hc:SaysAll Try.prog call){n:Nat}{t0:Bytes}{h:AHeap}{rR:ARes}{hR:AHeap}(hF:wire_Text call n t0 h=some (rR,hR)):Says Try.prog 65 [strA t0] h rR hR:=by
 unfold wire_Text at hF;refine sO Try.func65 fun w0 m0=>wW [(0,strA t0)] (oG fun n1=>W.r (oA 2 (strA ([]:Bytes)) (oA 3 (.int .i64 0) (oV [(0,strA t0)] (n1 (oH fun n2 q2=>oG fun n3=>W.r (oA 4 (strA t0) (oA 5 (.int .i64 (lenS t0)) (oB 6 hF fun t6 hF=>oV [(0,strA t0),(6,.bool t6)] (n3 ?_))))))))))
 cases t6 with
 |true=>
  exact oT hF fun hF=>oG fun n5=>W.r (oA 2 (strA ([]:Bytes)) (oA 3 (.int .i64 3) (oV [(2,strA ([]:Bytes)),(3,.int .i64 3)] (n5 (oY (q2 (lZ hF [.tmp 2,.tmp 3] [strA ([]:Bytes),.int .i64 3] (rT (rT res_nil)))))))))
 |false=>
  refine oU hF fun hF=>oZ (n2 (oG fun n6=>W.r (oA 7 (strA t0) (oCs hc 8 hF fun t8 h_7 hF=>oA 9 (strA t0) ?_))));obtain⟨t10,e10,hF⟩:=obind_some hF;exact WL.b (some 10) (strA t10) h_7 (add_str (P:=Try.prog) (h:=h_7) (t:=9) (lit:=false) e10) (oA 2 (strA t10) (oA 3 (.int .i64 0) (oV [(2,strA t10),(3,.int .i64 0)] (n6 (oY (lZ hF [.tmp 2,.tmp 3] [strA t10,.int .i64 0] (rT (rT res_nil))))))))
noncomputable def wire_Reader_U32(call:CallF)(_:Nat)(t0:AV)(h:AHeap):R:=callN (call 69 [t0,.int .i64 4] h) fun r4 h_3=>obind (avInt .u64 r4) fun t4=>lett (IntKind.u32.wrap t4) fun (t5:Int)=>some (.ret (.int .u32 t5),h_3)
set_option maxHeartbeats 4000000 in
set_option maxRecDepth 20000 in
theorem wire_Reader_U32_ok{call:CallF}(hc:SaysAll Try.prog call){n:Nat}{t0:AV}{h:AHeap}{rR:ARes}{hR:AHeap}(hF:wire_Reader_U32 call n t0 h=some (rR,hR)):Says Try.prog 67 [t0] h rR hR:=by
 unfold wire_Reader_U32 at hF;exact sO Try.func67 fun w0 m0=>wW [(0,t0)] (oG fun n1=>W.r (oA 2 (.int .u32 0) (oV [(0,t0)] (n1 (oG fun n2=>W.r (oA 3 t0 (oCi hc 4 hF fun t4 h_3 hF=>oI 5 .u32 hF fun t5 hF=>oA 2 (.int .u32 t5) (oV [(2,.int .u32 t5)] (n2 (oY (lZ hF [.tmp 2] [.int .u32 t5] (rT res_nil))))))))))))
noncomputable def wire_Reader_U64(call:CallF)(_:Nat)(t0:AV)(h:AHeap):R:=callN (call 69 [t0,.int .i64 8] h) fun r4 h_3=>obind (avInt .u64 r4) fun t4=>some (.ret (.int .u64 t4),h_3)
set_option maxHeartbeats 4000000 in
set_option maxRecDepth 20000 in
theorem wire_Reader_U64_ok{call:CallF}(hc:SaysAll Try.prog call){n:Nat}{t0:AV}{h:AHeap}{rR:ARes}{hR:AHeap}(hF:wire_Reader_U64 call n t0 h=some (rR,hR)):Says Try.prog 60 [t0] h rR hR:=by
 unfold wire_Reader_U64 at hF;exact sO Try.func60 fun w0 m0=>wW [(0,t0)] (oG fun n1=>W.r (oA 2 (.int .u64 0) (oV [(0,t0)] (n1 (oG fun n2=>W.r (oA 3 t0 (oCi hc 4 hF fun t4 h_3 hF=>oA 2 (.int .u64 t4) (oV [(2,.int .u64 t4)] (n2 (oY (lZ hF [.tmp 2] [.int .u64 t4] (rT res_nil))))))))))))
noncomputable def wire_Reader_End(call:CallF)(_:Nat)(t0:AV)(h:AHeap):R:=lett (newH h 128 [.int .i64 0,.int .i64 0]) fun h_2=>lett (fun (t16:Bool) (h_7:AHeap)=>ifB t16 (obind (nilC t0) fun t18=>obind (fldP 1 t18) fun t19=>obind (ldCell h_7 t19) fun v20=>obind (avInt .i64 v20) fun t20=>obind (stRow h_7 2 ([.int .i64 7,.int .i64 t20]:List AV) (newP h)) fun h_13=>obind (ldRow h_13 2 (newP h)) fun w2=>some (.ret (.agg w2),h_13)) (callN (call 73 [t0] h_7) fun r23 h_17=>obind (avAgg r23) fun t23=>obind (stRow h_17 2 t23 (newP h)) fun h_20=>obind (ldRow h_20 2 (newP h)) fun w2_23=>some (.ret (.agg w2_23),h_20))) fun k6=>callN (call 72 [t0] h_2) fun r4 h_24=>obind (avBool r4) fun t4=>ifB t4 (obind (nilC t0) fun t7=>obind (fldP 1 t7) fun t8=>obind (ldCell h_24 t8) fun v9=>obind (avInt .i64 v9) fun t9=>obind (nilC t0) fun t11=>obind (fldP 0 t11) fun t12=>obind (ldCell h_24 t12) fun v13=>obind (avStr v13) fun t13=>lett (decide (t9<(lenS t13))) fun (t15:Bool)=>k6 t15 h_24) (k6 false h_24)
set_option maxHeartbeats 4000000 in
set_option maxRecDepth 20000 in
theorem wire_Reader_End_ok{call:CallF}(hc:SaysAll Try.prog call){n:Nat}{t0:AV}{h:AHeap}{rR:ARes}{hR:AHeap}(hF:wire_Reader_End call n t0 h=some (rR,hR)):Says Try.prog 62 [t0] h rR hR:=by
 unfold wire_Reader_End at hF;refine sO Try.func62 fun w0 m0=>wW [(0,t0)] (oG fun n1=>W.r (oN 2 hF fun h_2 hF=>oV [(0,t0),(2,(newP h))] (n1 (oH fun n4 q4=>W.s (fun K5 n5 e5 q5 p5=>?_)))));obtain⟨k6,e6,hF⟩:=lett_some hF
 have J6:∀(t16:Bool) (h_7:AHeap),k6 t16 h_7=some (rR,hR)→Go w0 m0 (Func.ntmps Try.f62) (K5 .normal) [(0,t0),(2,(newP h)),(16,.bool t16)] [] h_7:=by
  intro t16 h_7 hF;rw[e6] at hF;refine n5 ?_
  cases t16 with
  |true=>
   refine oT hF fun hF=>oG fun n8=>W.r (oA 17 t0 (oC0 18 hF fun t18 hF=>oF 19 140 1 hF fun t19 hF=>oLi 20 3 hF fun t20 hF=>oA 21 (.agg ([.int .i64 7,.int .i64 t20]:List AV)) (oW 128 (.agg ([.int .i64 7,.int .i64 t20]:List AV)) hF fun h_13 hF=>oV [(2,(newP h))] (n8 (oY (q4 ?_))))));obtain⟨w2,e15,hF⟩:=obind_some hF;exact lZ hF [.cell 2 128] [.agg w2] (rY e15 res_nil)
  |false=>
   refine oU hF fun hF=>oZ (n4 (oG fun n16=>W.r (oA 22 t0 (oCa hc 23 hF fun t23 h_17 hF=>oW 128 (.agg t23) hF fun h_20 hF=>oV [(2,(newP h))] (n16 (oY ?_))))));obtain⟨w2_23,e22,hF⟩:=obind_some hF;exact lZ hF [.cell 2 128] [.agg w2_23] (rY e22 res_nil)
 refine y15 (by kernel_rfl) (hc.ok w0) (plan:=[0,1,2,3,4,5,6,7,8,9,10,11,12,13]) (by kernel_rfl) (by kernel_rfl) (by kernel_rfl) (WD.a 0 (some 3) t0 h_2 ?_)
 replace hF:=callN_some hF;obtain⟨r4,h_24,e25,hF⟩:=hF
 replace hF:=obind_some hF;obtain⟨t4,c26,hF⟩:=hF
 have c26:=avBool_some c26;subst c26;refine WD.call (d:=(some 4)) (by kernel_rfl) (by kernel_rfl) (by kernel_rfl) e25 (k:=2) (by kernel_rfl) (fun _=>(by kernel_rfl)) (by decide) (WD.a 0 (some 5) (.bool t4) h_24 ?_)
 cases t4 with
 |true=>
  replace hF:=ifB_t hF
  refine WD.a 0 (some 6) t0 h_24 ?_;obtain⟨t7,e27,hF⟩:=obind_some hF;refine WD.b 0 (some 7) t7 h_24 (nil_chk (h:=h_24) e27) ?_;obtain⟨t8,e28,hF⟩:=obind_some hF;refine WD.b 0 (some 8) t8 h_24 (field_ptr (P:=Try.prog) (h:=h_24) (s:=140) (f:=1) (by kernel_rfl) e28) ?_
  replace hF:=obind_some hF;obtain⟨v9,e29,hF⟩:=hF
  replace hF:=obind_some hF;obtain⟨t9,c30,hF⟩:=hF
  have c30:=avInt_some c30;subst c30;refine WD.b 1 (some 9) (.int .i64 t9) h_24 (load_cell (P:=Try.prog) (h:=h_24) (t:=3) (by kernel_rfl) e29) (WD.a 0 (some 10) t0 h_24 ?_);obtain⟨t11,e31,hF⟩:=obind_some hF;refine WD.b 0 (some 11) t11 h_24 (nil_chk (h:=h_24) e31) ?_;obtain⟨t12,e32,hF⟩:=obind_some hF;refine WD.b 0 (some 12) t12 h_24 (field_ptr (P:=Try.prog) (h:=h_24) (s:=140) (f:=0) (by kernel_rfl) e32) ?_
  replace hF:=obind_some hF;obtain⟨v13,e33,hF⟩:=hF
  replace hF:=obind_some hF;obtain⟨t13,c34,hF⟩:=hF
  have c34:=avStr_some c34;subst c34;refine WD.b 1 (some 13) (strA t13) h_24 (load_cell (P:=Try.prog) (h:=h_24) (t:=9) (by kernel_rfl) e33) (WD.a 0 (some 14) (.int .i64 (lenS t13)) h_24 ?_);obtain⟨t15,e35,hF⟩:=lett_some hF;exact WD.val (d:=(some 15)) (v:=.bool t15) (h':=h_24) (by kernel_rfl) (by kernel_rfl) (val_of AV.bool e35 (by kernel_rfl)) (k:=0) (by kernel_rfl) (fun e=>absurd e (by decide)) (by decide) (WD.a 0 (some 16) (.bool t15) h_24 (WD.nil (gW _ (J6 _ _ hF))))
 |false=>
  replace hF:=ifB_f hF
  exact oD 0 (some 6) (oD 0 (some 7) (oD 0 (some 8) (oD 1 (some 9) (oD 0 (some 10) (oD 0 (some 11) (oD 0 (some 12) (oD 1 (some 13) (oD 0 (some 14) (oD 0 (some 15) (WD.a 0 (some 16) (.bool false) h_24 (WD.nil (gW _ (J6 _ _ hF)))))))))))))
noncomputable def wire_Reader_Fault(_:CallF)(_:Nat)(t0:AV)(h:AHeap):R:=lett (newH h 128 [.int .i64 0,.int .i64 0]) fun h_2=>outK (opBin Try.prog h_2 .eql 121 true (some t0) (some AV.nilp)) fun v4 h_6=>obind (avBool v4) fun t4=>ifB t4 (obind (stRow h_6 2 ([.int .i64 1,.int .i64 0]:List AV) (newP h)) fun h_10=>obind (ldRow h_10 2 (newP h)) fun w2=>some (.ret (.agg w2),h_10)) (obind (nilC t0) fun t7=>obind (fldP 2 t7) fun t8=>obind (ldRow h_6 2 t8) fun t9=>obind (stRow h_6 2 t9 (newP h)) fun h_17=>obind (ldRow h_17 2 (newP h)) fun w2_20=>some (.ret (.agg w2_20),h_17))
set_option maxHeartbeats 4000000 in
set_option maxRecDepth 20000 in
theorem wire_Reader_Fault_ok{call:CallF}(_:SaysAll Try.prog call){n:Nat}{t0:AV}{h:AHeap}{rR:ARes}{hR:AHeap}(hF:wire_Reader_Fault call n t0 h=some (rR,hR)):Says Try.prog 73 [t0] h rR hR:=by
 unfold wire_Reader_Fault at hF;refine sO Try.func73 fun w0 m0=>wW [(0,t0)] (oG fun n1=>W.r (oN 2 hF fun h_2 hF=>oV [(0,t0),(2,(newP h))] (n1 (oH fun n4 q4=>oG fun n5=>W.r (oA 3 t0 ?_)))))
 replace hF:=outK_some hF;obtain⟨v4,h_6,e7,hF⟩:=hF
 replace hF:=obind_some hF;obtain⟨t4,c8,hF⟩:=hF
 have c8:=avBool_some c8;subst c8;refine WL.b (some 4) (.bool t4) h_6 e7 (oV [(0,t0),(2,(newP h)),(4,.bool t4)] (n5 ?_))
 cases t4 with
 |true=>
  refine oT hF fun hF=>oG fun n9=>W.r (oA 5 (.agg ([.int .i64 1,.int .i64 0]:List AV)) (oW 128 (.agg ([.int .i64 1,.int .i64 0]:List AV)) hF fun h_10 hF=>oV [(2,(newP h))] (n9 (oY (q4 ?_)))));obtain⟨w2,e12,hF⟩:=obind_some hF;exact lZ hF [.cell 2 128] [.agg w2] (rY e12 res_nil)
 |false=>
  refine oU hF fun hF=>oZ (n4 (oG fun n13=>W.r (oA 6 t0 (oC0 7 hF fun t7 hF=>oF 8 140 2 hF fun t8 hF=>oR 9 128 hF fun t9 hF=>oW 128 (.agg t9) hF fun h_17 hF=>oV [(2,(newP h))] (n13 (oY ?_))))));obtain⟨w2_20,e19,hF⟩:=obind_some hF;exact lZ hF [.cell 2 128] [.agg w2_20] (rY e19 res_nil)
noncomputable def wire_Reader_number_L0b(t0:AV)(t1:Int)(k33:Int→AHeap→R)(self:Int→Int→AHeap→R)(t5_37:Int)(t28:Int)(h_38:AHeap):R:=lett (decide (t28<t1)) fun (t29:Bool)=>ifB t29 (obind (shlI .u64 t5_37 8) fun t31=>obind (nilC t0) fun t33=>obind (fldP 0 t33) fun t34=>obind (ldCell h_38 t34) fun v35=>obind (avStr v35) fun t35=>obind (nilC t0) fun t37=>obind (fldP 1 t37) fun t38=>obind (ldCell h_38 t38) fun v39=>obind (avInt .i64 v39) fun t39=>obind (idxS t35 t39) fun t40=>lett (IntKind.u64.wrap t40) fun (t41:Int)=>lett (orI .u64 t31 t41) fun (t42:Int)=>obind (nilC t0) fun t44=>obind (fldP 1 t44) fun t45=>obind (ldCell h_38 t45) fun v46=>obind (avInt .i64 v46) fun t46=>lett (IntKind.i64.wrap (t46+1)) fun (t47:Int)=>obind (nilC t0) fun t48=>obind (fldP 1 t48) fun t49=>obind (stRow h_38 1 [.int .i64 t47] t49) fun h_64=>lett (IntKind.i64.wrap (t28+1)) fun (t50:Int)=>self t42 t50 h_64) (k33 t5_37 h_38)
noncomputable def wire_Reader_number_L0(t0:AV)(t1:Int)(k33:Int→AHeap→R):Nat→Int→Int→AHeap→R:=iterR (fun _ _ _=>none) (wire_Reader_number_L0b t0 t1 k33)
theorem wire_Reader_number_L0_s(t0:AV)(t1:Int)(k33:Int→AHeap→R)(m:Nat):wire_Reader_number_L0 t0 t1 k33 (m+1)=wire_Reader_number_L0b t0 t1 k33 (wire_Reader_number_L0 t0 t1 k33 m):=rfl
noncomputable def wire_Reader_number(call:CallF)(n:Nat)(t0:AV)(t1:Int)(h:AHeap):R:=callN (call 72 [t0] h) fun r7 h_4=>obind (avBool r7) fun t7=>lett (!t7) fun (t8:Bool)=>ifB t8 (some (.ret (.int .u64 0),h_4)) (obind (nilC t0) fun t10=>obind (fldP 0 t10) fun t11=>obind (ldCell h_4 t11) fun v12=>obind (avStr v12) fun t12=>obind (nilC t0) fun t15=>obind (fldP 1 t15) fun t16=>obind (ldCell h_4 t16) fun v17=>obind (avInt .i64 v17) fun t17=>lett (IntKind.i64.wrap ((lenS t12) - t17)) fun (t18:Int)=>lett (decide (t18<t1)) fun (t20:Bool)=>ifB t20 (obind (nilC t0) fun t23=>obind (fldP 1 t23) fun t24=>obind (ldCell h_4 t24) fun v25=>obind (avInt .i64 v25) fun t25=>callN (call 71 [t0,.int .i64 7,.int .i64 t25] h_4) fun _ h_26=>some (.ret (.int .u64 0),h_26)) (lett (fun (t5:Int) (h_34:AHeap)=>some (.ret (.int .u64 t5),h_34)) fun k33=>wire_Reader_number_L0 t0 t1 k33 n 0 0 h_4))
set_option maxHeartbeats 4000000 in
set_option maxRecDepth 20000 in
theorem wire_Reader_number_ok{call:CallF}(hc:SaysAll Try.prog call){n:Nat}{t0:AV}{t1:Int}{h:AHeap}{rR:ARes}{hR:AHeap}(hF:wire_Reader_number call n t0 t1 h=some (rR,hR)):Says Try.prog 69 [t0,.int .i64 t1] h rR hR:=by
 unfold wire_Reader_number at hF;refine sO Try.func69 fun w0 m0=>wW [(0,t0),(1,.int .i64 t1)] (oG fun n1=>W.r (oA 4 (.int .u64 0) (oV [(0,t0),(1,.int .i64 t1)] (n1 (oH fun n2 q2=>oG fun n3=>W.r (oA 6 t0 (oCb hc 7 hF fun t7 h_4 hF=>oB 8 hF fun t8 hF=>oV [(0,t0),(1,.int .i64 t1),(8,.bool t8)] (n3 ?_))))))))
 cases t8 with
 |true=>
  exact oT hF fun hF=>oG fun n8=>W.r (oA 4 (.int .u64 0) (oV [(4,.int .u64 0)] (n8 (oY (q2 (lZ hF [.tmp 4] [.int .u64 0] (rT res_nil)))))))
 |false=>
  refine oU hF fun hF=>oZ (n2 (oH fun n9 q9=>oG fun n10=>y15 (by kernel_rfl) (hc.ok w0) (plan:=[0,1,2,3,4,5,6,7,8,9,10,11]) (by kernel_rfl) (by kernel_rfl) (by kernel_rfl) (WD.a 0 (some 9) t0 h_4 ?_)));obtain⟨t10,e11,hF⟩:=obind_some hF;refine WD.b 0 (some 10) t10 h_4 (nil_chk (h:=h_4) e11) ?_;obtain⟨t11,e12,hF⟩:=obind_some hF;refine WD.b 0 (some 11) t11 h_4 (field_ptr (P:=Try.prog) (h:=h_4) (s:=140) (f:=0) (by kernel_rfl) e12) ?_
  replace hF:=obind_some hF;obtain⟨v12,e13,hF⟩:=hF
  replace hF:=obind_some hF;obtain⟨t12,c14,hF⟩:=hF
  have c14:=avStr_some c14;subst c14;refine WD.b 1 (some 12) (strA t12) h_4 (load_cell (P:=Try.prog) (h:=h_4) (t:=9) (by kernel_rfl) e13) (WD.a 0 (some 13) (.int .i64 (lenS t12)) h_4 (WD.a 0 (some 14) t0 h_4 ?_));obtain⟨t15,e15,hF⟩:=obind_some hF;refine WD.b 0 (some 15) t15 h_4 (nil_chk (h:=h_4) e15) ?_;obtain⟨t16,e16,hF⟩:=obind_some hF;refine WD.b 0 (some 16) t16 h_4 (field_ptr (P:=Try.prog) (h:=h_4) (s:=140) (f:=1) (by kernel_rfl) e16) ?_
  replace hF:=obind_some hF;obtain⟨v17,e17,hF⟩:=hF
  replace hF:=obind_some hF;obtain⟨t17,c18,hF⟩:=hF
  have c18:=avInt_some c18;subst c18;refine WD.b 1 (some 17) (.int .i64 t17) h_4 (load_cell (P:=Try.prog) (h:=h_4) (t:=3) (by kernel_rfl) e17) ?_;obtain⟨t18,e19,hF⟩:=lett_some hF;refine WD.val (d:=(some 18)) (v:=.int .i64 t18) (h':=h_4) (by kernel_rfl) (by kernel_rfl) (val_of (AV.int .i64) e19 (by kernel_rfl)) (k:=0) (by kernel_rfl) (fun e=>absurd e (by decide)) (by decide) (WD.a 0 (some 19) (.int .i64 t1) h_4 ?_);obtain⟨t20,e20,hF⟩:=lett_some hF;refine WD.val (d:=(some 20)) (v:=.bool t20) (h':=h_4) (by kernel_rfl) (by kernel_rfl) (val_of AV.bool e20 (by kernel_rfl)) (k:=0) (by kernel_rfl) (fun e=>absurd e (by decide)) (by decide) (WD.nil (gW [(0,t0),(1,.int .i64 t1),(20,.bool t20)] (n10 ?_)))
  cases t20 with
  |true=>
   exact oT hF fun hF=>oG fun n21=>W.r (oA 21 t0 (oA 22 t0 (oC0 23 hF fun t23 hF=>oF 24 140 1 hF fun t24 hF=>oLi 25 3 hF fun t25 hF=>oC hc (some 26) hF fun r26 h_26 hF=>oV [] (n21 (oG fun n28=>W.r (oA 4 (.int .u64 0) (oV [(4,.int .u64 0)] (n28 (oY (q9 (lZ hF [.tmp 4] [.int .u64 0] (rT res_nil))))))))))))
  |false=>
   refine oU hF fun hF=>oZ (n9 (oG fun n29=>W.r (oA 5 (.int .u64 0) (oV [(0,t0),(1,.int .i64 t1),(5,.int .u64 0)] (n29 (W.s (fun K30 n30 e30 q30 p30=>oG fun n31=>W.r (oA 27 (.int .i64 t1) (oA 28 (.int .i64 0) (oV [(0,t0),(5,.int .u64 0),(27,.int .i64 t1),(28,.int .i64 0)] (n31 ?_)))))))))));obtain⟨k33,e33,hF⟩:=lett_some hF
   have J33:∀(t5:Int) (h_34:AHeap),k33 t5 h_34=some (rR,hR)→Go w0 m0 (Func.ntmps Try.f69) (K30 .normal) [(5,.int .u64 t5)] [] h_34:=by
    intro t5 h_34 hF;rw[e33] at hF;exact n30 (oG fun n35=>W.r (oA 51 (.int .u64 t5) (oA 4 (.int .u64 t5) (oV [(4,.int .u64 t5)] (n35 (oY (lZ hF [.tmp 4] [.int .u64 t5] (rT res_nil))))))))
   refine W.blockK (by kernel_rfl) (fun K32 n32 s32 o32 q32 p32=>W.loopK (by kernel_rfl) (fun I36 K36 b36 n36 e36 q36 p36=>?_))
   have L36:∀(m:Nat) (t5_37:Int) (t28:Int) (h_38:AHeap),wire_Reader_number_L0 t0 t1 k33 m t5_37 t28 h_38=some (rR,hR)→Go w0 m0 (Func.ntmps Try.f69) I36 [(0,t0),(5,.int .u64 t5_37),(27,.int .i64 t1),(28,.int .i64 t28)] [] h_38:=by
    intro m
    induction m with
    |zero=>intro t5_37 t28 h_38 hF;cases hF
    |succ m ih36=>
     intro t5_37 t28 h_38 hF;rw[wire_Reader_number_L0_s] at hF;unfold wire_Reader_number_L0b at hF;refine b36 (oG fun n39=>W.r (oB 29 hF fun t29 hF=>oV [(0,t0),(5,.int .u64 t5_37),(27,.int .i64 t1),(28,.int .i64 t28),(29,.bool t29)] (n39 (W.s (fun K41 n41 e41 q41 p41=>?_)))))
     cases t29 with
     |true=>
      refine oT hF fun hF=>oZ (n41 (oG fun n42=>W.blockK (by kernel_rfl) (fun K43 n43 s43 o43 q43 p43=>oG fun n44=>y15 (by kernel_rfl) (hc.ok w0) (plan:=[0,1,2,3,4,5,6,7,8,9,10,11,12,13]) (by kernel_rfl) (by kernel_rfl) (by kernel_rfl) (WD.a 0 (some 30) (.int .u64 t5_37) h_38 ?_))));obtain⟨t31,e45,hF⟩:=obind_some hF;refine WD.b 0 (some 31) (.int .u64 t31) h_38 (shl_int (P:=Try.prog) (h:=h_38) (t:=124) (k':=.u64) (lit:=true) e45) (WD.a 0 (some 32) t0 h_38 ?_);obtain⟨t33,e46,hF⟩:=obind_some hF;refine WD.b 0 (some 33) t33 h_38 (nil_chk (h:=h_38) e46) ?_;obtain⟨t34,e47,hF⟩:=obind_some hF;refine WD.b 0 (some 34) t34 h_38 (field_ptr (P:=Try.prog) (h:=h_38) (s:=140) (f:=0) (by kernel_rfl) e47) ?_
      replace hF:=obind_some hF;obtain⟨v35,e48,hF⟩:=hF
      replace hF:=obind_some hF;obtain⟨t35,c49,hF⟩:=hF
      have c49:=avStr_some c49;subst c49;refine WD.b 1 (some 35) (strA t35) h_38 (load_cell (P:=Try.prog) (h:=h_38) (t:=9) (by kernel_rfl) e48) (WD.a 0 (some 36) t0 h_38 ?_);obtain⟨t37,e50,hF⟩:=obind_some hF;refine WD.b 0 (some 37) t37 h_38 (nil_chk (h:=h_38) e50) ?_;obtain⟨t38,e51,hF⟩:=obind_some hF;refine WD.b 0 (some 38) t38 h_38 (field_ptr (P:=Try.prog) (h:=h_38) (s:=140) (f:=1) (by kernel_rfl) e51) ?_
      replace hF:=obind_some hF;obtain⟨v39,e52,hF⟩:=hF
      replace hF:=obind_some hF;obtain⟨t39,c53,hF⟩:=hF
      have c53:=avInt_some c53;subst c53;refine WD.b 1 (some 39) (.int .i64 t39) h_38 (load_cell (P:=Try.prog) (h:=h_38) (t:=3) (by kernel_rfl) e52) ?_;obtain⟨t40,e54,hF⟩:=obind_some hF;refine WD.b 0 (some 40) (.int .u8 t40) h_38 (index_str (P:=Try.prog) (h:=h_38) (t:=9) (k:=.i64) (by kernel_rfl) e54) ?_;obtain⟨t41,e55,hF⟩:=lett_some hF;refine WD.val (d:=(some 41)) (v:=.int .u64 t41) (h':=h_38) (by kernel_rfl) (by kernel_rfl) (val_of (AV.int .u64) e55 (by kernel_rfl)) (k:=0) (by kernel_rfl) (fun e=>absurd e (by decide)) (by decide) ?_;obtain⟨t42,e56,hF⟩:=lett_some hF;exact WD.val (d:=(some 42)) (v:=.int .u64 t42) (h':=h_38) (by kernel_rfl) (by kernel_rfl) (val_of (AV.int .u64) e56 (by kernel_rfl)) (k:=0) (by kernel_rfl) (fun e=>absurd e (by decide)) (by decide) (WD.val (d:=(some 5)) (v:=.int .u64 t42) (h':=h_38) (by kernel_rfl) (by kernel_rfl) (by kernel_rfl) (k:=2) (by kernel_rfl) (fun _=>(by kernel_rfl)) (by decide) (WD.nil (gW [(0,t0),(5,.int .u64 t42),(27,.int .i64 t1),(28,.int .i64 t28)] (n44 (W.r (oA 43 t0 (oC0 44 hF fun t44 hF=>oF 45 140 1 hF fun t45 hF=>oLi 46 3 hF fun t46 hF=>oI 47 .i64 hF fun t47 hF=>oC0 48 hF fun t48 hF=>oF 49 140 1 hF fun t49 hF=>oW 3 (.int .i64 t47) hF fun h_64 hF=>oV [(0,t0),(5,.int .u64 t42),(27,.int .i64 t1),(28,.int .i64 t28)] (n43 (n42 (W.r (oI 50 .i64 hF fun t50 hF=>oA 28 (.int .i64 t50) (oV [(0,t0),(5,.int .u64 t42),(27,.int .i64 t1),(28,.int .i64 t50)] (n36 (gW _ (ih36 _ _ _ hF)))))))))))))))
     |false=>
      exact oU hF fun hF=>W.exit (by kernel_rfl) (e41 (e36 (s32 (by kernel_rfl) (gW _ (J33 _ _ hF)))))
   exact gW _ (L36 _ _ _ _ hF)
noncomputable def wire_Reader_whole(_:CallF)(_:Nat)(t0:AV)(h:AHeap):R:=outK (opBin Try.prog h .neq 121 true (some t0) (some AV.nilp)) fun v4 h_3=>obind (avBool v4) fun t4=>lett (fun (t12:Bool) (h_6:AHeap)=>some (.ret (.bool t12),h_6)) fun j12=>ifB t4 (obind (nilC t0) fun t7=>obind (fldP 2 t7) fun t8=>obind (fldP 0 t8) fun t9=>obind (ldCell h_3 t9) fun v10=>obind (avInt .i64 v10) fun t10=>lett ((t10:Int) == 0) fun (t11:Bool)=>j12 t11 h_3) (j12 false h_3)
set_option maxHeartbeats 4000000 in
set_option maxRecDepth 20000 in
theorem wire_Reader_whole_ok{call:CallF}(_:SaysAll Try.prog call){n:Nat}{t0:AV}{h:AHeap}{rR:ARes}{hR:AHeap}(hF:wire_Reader_whole call n t0 h=some (rR,hR)):Says Try.prog 72 [t0] h rR hR:=by
 unfold wire_Reader_whole at hF;refine sO Try.func72 fun w0 m0=>wW [(0,t0)] (oG fun n1=>W.r (oA 2 (.bool false) (oV [(0,t0)] (n1 (W.s (fun K2 n2 e2 q2 p2=>W.r (oA 3 t0 ?_)))))))
 replace hF:=outK_some hF;obtain⟨v4,h_3,e4,hF⟩:=hF
 replace hF:=obind_some hF;obtain⟨t4,c5,hF⟩:=hF
 have c5:=avBool_some c5;subst c5;refine WL.b (some 4) (.bool t4) h_3 e4 (oA 5 (.bool t4) ?_);obtain⟨j12,e7,hF⟩:=lett_some hF
 have J8:∀(t12:Bool) (h_6:AHeap),j12 t12 h_6=some (rR,hR)→WL Try.prog w0 m0 (Func.ntmps Try.f72) (Code.ops (y6 (y3 (codeOf Try.f72)))) 10 K2 [(12,.bool t12)] [] h_6:=by
  intro t12 h_6 hF;rw[e7] at hF;exact oA 2 (.bool t12) (oV [(2,.bool t12)] (n2 (oY (lZ hF [.tmp 2] [.bool t12] (rT res_nil)))))
 cases t4 with
 |true=>
  replace hF:=ifB_t hF
  exact oA 6 t0 (oC0 7 hF fun t7 hF=>oF 8 140 2 hF fun t8 hF=>oF 9 128 0 hF fun t9 hF=>oLi 10 26 hF fun t10 hF=>oB 11 hF fun t11 hF=>oA 12 (.bool t11) (lW _ (J8 _ _ hF)))
 |false=>
  replace hF:=ifB_f hF
  exact WL.o (some 6) (WL.o (some 7) (WL.o (some 8) (WL.o (some 9) (WL.o (some 10) (WL.o (some 11) (oA 12 (.bool false) (lW _ (J8 _ _ hF))))))))
noncomputable def wire_Reader_fail(_:CallF)(_:Nat)(t0:AV)(t1:Int)(t2:Int)(h:AHeap):R:=obind (nilC t0) fun t10=>obind (fldP 2 t10) fun t11=>obind (stRow h 2 ([.int .i64 t1,.int .i64 t2]:List AV) t11) fun h_3=>some (.ret (.tup []),h_3)
set_option maxHeartbeats 4000000 in
set_option maxRecDepth 20000 in
theorem wire_Reader_fail_ok{call:CallF}(_:SaysAll Try.prog call){n:Nat}{t0:AV}{t1:Int}{t2:Int}{h:AHeap}{rR:ARes}{hR:AHeap}(hF:wire_Reader_fail call n t0 t1 t2 h=some (rR,hR)):Says Try.prog 71 [t0,.int .i64 t1,.int .i64 t2] h rR hR:=by
 unfold wire_Reader_fail at hF;exact sO Try.func71 fun w0 m0=>wW [(0,t0),(1,.int .i64 t1),(2,.int .i64 t2)] (W.r (oA 6 t0 (oA 7 (.int .i64 t1) (oA 8 (.int .i64 t2) (oA 9 (.agg ([.int .i64 t1,.int .i64 t2]:List AV)) (oC0 10 hF fun t10 hF=>oF 11 140 2 hF fun t11 hF=>oW 128 (.agg ([.int .i64 t1,.int .i64 t2]:List AV)) hF fun h_3 hF=>oV [] (lY hF [] [] res_nil)))))))
noncomputable def wire_Reader_head(call:CallF)(_:Nat)(t0:AV)(t1:Int)(h:AHeap):R:=callN (call 72 [t0] h) fun r8 h_4=>obind (avBool r8) fun t8=>lett (!t8) fun (t9:Bool)=>ifB t9 (some (.ret (.tup [.int .u32 0,.int .i64 0,.bool false]),h_4)) (obind (nilC t0) fun t11=>obind (fldP 1 t11) fun t12=>obind (ldCell h_4 t12) fun v13=>obind (avInt .i64 v13) fun t13=>callN (call 67 [t0] h_4) fun r15 h_15=>obind (avInt .u32 r15) fun t15=>callN (call 72 [t0] h_15) fun r17 h_20=>obind (avBool r17) fun t17=>lett (fun (t23:Bool) (h_23:AHeap)=>lett (fun (h_27:AHeap)=>callN (call 72 [t0] h_27) fun r30 h_29=>obind (avBool r30) fun t30=>some (.ret (.tup [.int .u32 t15,.int .i64 t13,.bool t30]),h_29)) fun k26=>ifB t23 (callN (call 71 [t0,.int .i64 3,.int .i64 t13] h_23) fun _ h_32=>k26 h_32) (k26 h_23)) fun j23=>ifB t17 (lett (IntKind.i64.wrap t15) fun (t20:Int)=>lett (decide (t20>t1)) fun (t22:Bool)=>j23 t22 h_20) (j23 false h_20))
set_option maxHeartbeats 4000000 in
set_option maxRecDepth 20000 in
theorem wire_Reader_head_ok{call:CallF}(hc:SaysAll Try.prog call){n:Nat}{t0:AV}{t1:Int}{h:AHeap}{rR:ARes}{hR:AHeap}(hF:wire_Reader_head call n t0 t1 h=some (rR,hR)):Says Try.prog 70 [t0,.int .i64 t1] h rR hR:=by
 unfold wire_Reader_head at hF;refine sO Try.func70 fun w0 m0=>wW [(0,t0),(1,.int .i64 t1)] (oG fun n1=>W.r (oA 4 (.int .u32 0) (oA 5 (.int .i64 0) (oA 6 (.bool false) (oV [(0,t0),(1,.int .i64 t1)] (n1 (oH fun n2 q2=>oG fun n3=>W.r (oA 7 t0 (oCb hc 8 hF fun t8 h_4 hF=>oB 9 hF fun t9 hF=>oV [(0,t0),(1,.int .i64 t1),(9,.bool t9)] (n3 ?_))))))))))
 cases t9 with
 |true=>
  exact oT hF fun hF=>oG fun n8=>W.r (oA 4 (.int .u32 0) (oA 5 (.int .i64 0) (oA 6 (.bool false) (oV [(4,.int .u32 0),(5,.int .i64 0),(6,.bool false)] (n8 (oY (q2 (lZ hF [.tmp 4,.tmp 5,.tmp 6] [.int .u32 0,.int .i64 0,.bool false] (rT (rT (rT res_nil)))))))))))
 |false=>
  refine oU hF fun hF=>oZ (n2 (oG fun n9=>W.r (oA 10 t0 (oC0 11 hF fun t11 hF=>oF 12 140 1 hF fun t12 hF=>oLi 13 3 hF fun t13 hF=>oA 5 (.int .i64 t13) (oV [(0,t0),(1,.int .i64 t1),(5,.int .i64 t13)] (n9 (oG fun n14=>W.r (oA 14 t0 (oCi hc 15 hF fun t15 h_15 hF=>oA 4 (.int .u32 t15) (oV [(0,t0),(1,.int .i64 t1),(4,.int .u32 t15),(5,.int .i64 t13)] (n14 (W.s (fun K18 n18 e18 q18 p18=>W.s (fun K19 n19 e19 q19 p19=>W.r (oA 16 t0 (oCb hc 17 hF fun t17 h_20 hF=>oA 18 (.bool t17) ?_))))))))))))))));obtain⟨j23,e24,hF⟩:=lett_some hF
  have J25:∀(t23:Bool) (h_23:AHeap),j23 t23 h_23=some (rR,hR)→WL Try.prog w0 m0 (Func.ntmps Try.f70) (Code.ops (y6 (y6 (y3 (y3 (y3 (y3 (codeOf Try.f70)))))))) 8 K19 [(0,t0),(4,.int .u32 t15),(5,.int .i64 t13),(23,.bool t23)] [] h_23:=by
   intro t23 h_23 hF;rw[e24] at hF;refine oV [(0,t0),(4,.int .u32 t15),(5,.int .i64 t13),(23,.bool t23)] (n19 ?_);obtain⟨k26,e26,hF⟩:=lett_some hF
   have J26:∀(h_27:AHeap),k26 h_27=some (rR,hR)→Go w0 m0 (Func.ntmps Try.f70) (K18 .normal) [(0,t0),(4,.int .u32 t15),(5,.int .i64 t13)] [] h_27:=by
    intro h_27 hF;rw[e26] at hF;exact n18 (oG fun n28=>W.r (oA 27 (.int .u32 t15) (oA 28 (.int .i64 t13) (oA 29 t0 (oCb hc 30 hF fun t30 h_29 hF=>oA 4 (.int .u32 t15) (oA 5 (.int .i64 t13) (oA 6 (.bool t30) (oV [(4,.int .u32 t15),(5,.int .i64 t13),(6,.bool t30)] (n28 (oY (lZ hF [.tmp 4,.tmp 5,.tmp 6] [.int .u32 t15,.int .i64 t13,.bool t30] (rT (rT (rT res_nil))))))))))))))
   cases t23 with
   |true=>
    exact oT hF fun hF=>W.r (oA 24 t0 (oA 25 (.int .i64 t13) (oC hc (some 26) hF fun r26 h_32 hF=>oV [(0,t0),(4,.int .u32 t15),(5,.int .i64 t13)] (gW _ (J26 _ hF)))))
   |false=>
    exact oU hF fun hF=>oZ (gW _ (J26 _ hF))
  cases t17 with
  |true=>
   replace hF:=ifB_t hF
   exact oA 19 (.int .u32 t15) (oI 20 .i64 hF fun t20 hF=>oA 21 (.int .i64 t1) (oB 22 hF fun t22 hF=>oA 23 (.bool t22) (lW _ (J25 _ _ hF))))
  |false=>
   replace hF:=ifB_f hF
   exact WL.o (some 19) (WL.o (some 20) (WL.o (some 21) (WL.o (some 22) (oA 23 (.bool false) (lW _ (J25 _ _ hF))))))
noncomputable def wire_Reader_Text(call:CallF)(_:Nat)(t0:AV)(t1:Int)(h:AHeap):R:=callN (call 70 [t0,.int .i64 t1] h) fun r12 h_3=>obind (extT 0 r12) fun v13=>obind (avInt .u32 v13) fun t13=>obind (extT 1 r12) fun v14=>obind (avInt .i64 v14) fun t14=>obind (extT 2 r12) fun v15=>obind (avBool v15) fun t15=>lett (!t15) fun (t17:Bool)=>ifB t17 (some (.ret (strA ([]:Bytes)),h_3)) (lett (IntKind.i64.wrap t13) fun (t19:Int)=>obind (nilC t0) fun t21=>obind (fldP 0 t21) fun t22=>obind (ldCell h_3 t22) fun v23=>obind (avStr v23) fun t23=>obind (nilC t0) fun t26=>obind (fldP 1 t26) fun t27=>obind (ldCell h_3 t27) fun v28=>obind (avInt .i64 v28) fun t28=>lett (IntKind.i64.wrap ((lenS t23) - t28)) fun (t29:Int)=>lett (decide (t19>t29)) fun (t30:Bool)=>ifB t30 (callN (call 71 [t0,.int .i64 7,.int .i64 t14] h_3) fun _ h_29=>some (.ret (strA ([]:Bytes)),h_29)) (obind (nilC t0) fun t35=>obind (fldP 1 t35) fun t36=>obind (ldCell h_3 t36) fun v37=>obind (avInt .i64 v37) fun t37=>obind (nilC t0) fun t39=>obind (fldP 1 t39) fun t40=>obind (ldCell h_3 t40) fun v41=>obind (avInt .i64 v41) fun t41=>lett (IntKind.i64.wrap t13) fun (t43:Int)=>lett (IntKind.i64.wrap (t41+t43)) fun (t44:Int)=>obind (nilC t0) fun t45=>obind (fldP 1 t45) fun t46=>obind (stRow h_3 1 [.int .i64 t44] t46) fun h_46=>obind (nilC t0) fun t48=>obind (fldP 0 t48) fun t49=>obind (ldCell h_46 t49) fun v50=>obind (avStr v50) fun t50=>obind (nilC t0) fun t53=>obind (fldP 1 t53) fun t54=>obind (ldCell h_46 t54) fun v55=>obind (avInt .i64 v55) fun t55=>obind (sliceS t50 t37 t55) fun t56=>some (.ret (strA t56),h_46)))
set_option maxHeartbeats 4000000 in
set_option maxRecDepth 20000 in
theorem wire_Reader_Text_ok{call:CallF}(hc:SaysAll Try.prog call){n:Nat}{t0:AV}{t1:Int}{h:AHeap}{rR:ARes}{hR:AHeap}(hF:wire_Reader_Text call n t0 t1 h=some (rR,hR)):Says Try.prog 61 [t0,.int .i64 t1] h rR hR:=by
 unfold wire_Reader_Text at hF;refine sO Try.func61 fun w0 m0=>wW [(0,t0),(1,.int .i64 t1)] (oG fun n1=>W.r (oA 4 (strA ([]:Bytes)) (oV [(0,t0),(1,.int .i64 t1)] (n1 (oG fun n2=>W.r (oA 10 t0 (oA 11 (.int .i64 t1) (oC hc (some 12) hF fun r12 h_3 hF=>oA 9 r12 (oEi 13 hF fun t13 hF=>oEi 14 hF fun t14 hF=>oEb 15 hF fun t15 hF=>oA 5 (.int .u32 t13) (oA 6 (.int .i64 t14) (oA 7 (.bool t15) (oV [(0,t0),(5,.int .u32 t13),(6,.int .i64 t14),(7,.bool t15)] (n2 (oH fun n11 q11=>oG fun n12=>W.r (oA 16 (.bool t15) (oB 17 hF fun t17 hF=>oV [(0,t0),(5,.int .u32 t13),(6,.int .i64 t14),(17,.bool t17)] (n12 ?_)))))))))))))))))
 cases t17 with
 |true=>
  exact oT hF fun hF=>oG fun n14=>W.r (oA 4 (strA ([]:Bytes)) (oV [(4,strA ([]:Bytes))] (n14 (oY (q11 (lZ hF [.tmp 4] [strA ([]:Bytes)] (rT res_nil)))))))
 |false=>
  refine oU hF fun hF=>oZ (n11 (oH fun n15 q15=>oG fun n16=>y15 (by kernel_rfl) (hc.ok w0) (plan:=[0,1,2,3,4,5,6,7,8,9,10,11,12]) (by kernel_rfl) (by kernel_rfl) (by kernel_rfl) (WD.a 0 (some 18) (.int .u32 t13) h_3 ?_)));obtain⟨t19,e17,hF⟩:=lett_some hF;refine WD.val (d:=(some 19)) (v:=.int .i64 t19) (h':=h_3) (by kernel_rfl) (by kernel_rfl) (val_of (AV.int .i64) e17 (by kernel_rfl)) (k:=0) (by kernel_rfl) (fun e=>absurd e (by decide)) (by decide) (WD.a 0 (some 20) t0 h_3 ?_);obtain⟨t21,e18,hF⟩:=obind_some hF;refine WD.b 0 (some 21) t21 h_3 (nil_chk (h:=h_3) e18) ?_;obtain⟨t22,e19,hF⟩:=obind_some hF;refine WD.b 0 (some 22) t22 h_3 (field_ptr (P:=Try.prog) (h:=h_3) (s:=140) (f:=0) (by kernel_rfl) e19) ?_
  replace hF:=obind_some hF;obtain⟨v23,e20,hF⟩:=hF
  replace hF:=obind_some hF;obtain⟨t23,c21,hF⟩:=hF
  have c21:=avStr_some c21;subst c21;refine WD.b 1 (some 23) (strA t23) h_3 (load_cell (P:=Try.prog) (h:=h_3) (t:=9) (by kernel_rfl) e20) (WD.a 0 (some 24) (.int .i64 (lenS t23)) h_3 (WD.a 0 (some 25) t0 h_3 ?_));obtain⟨t26,e22,hF⟩:=obind_some hF;refine WD.b 0 (some 26) t26 h_3 (nil_chk (h:=h_3) e22) ?_;obtain⟨t27,e23,hF⟩:=obind_some hF;refine WD.b 0 (some 27) t27 h_3 (field_ptr (P:=Try.prog) (h:=h_3) (s:=140) (f:=1) (by kernel_rfl) e23) ?_
  replace hF:=obind_some hF;obtain⟨v28,e24,hF⟩:=hF
  replace hF:=obind_some hF;obtain⟨t28,c25,hF⟩:=hF
  have c25:=avInt_some c25;subst c25;refine WD.b 1 (some 28) (.int .i64 t28) h_3 (load_cell (P:=Try.prog) (h:=h_3) (t:=3) (by kernel_rfl) e24) ?_;obtain⟨t29,e26,hF⟩:=lett_some hF;refine WD.val (d:=(some 29)) (v:=.int .i64 t29) (h':=h_3) (by kernel_rfl) (by kernel_rfl) (val_of (AV.int .i64) e26 (by kernel_rfl)) (k:=0) (by kernel_rfl) (fun e=>absurd e (by decide)) (by decide) ?_;obtain⟨t30,e27,hF⟩:=lett_some hF;refine WD.val (d:=(some 30)) (v:=.bool t30) (h':=h_3) (by kernel_rfl) (by kernel_rfl) (val_of AV.bool e27 (by kernel_rfl)) (k:=0) (by kernel_rfl) (fun e=>absurd e (by decide)) (by decide) (WD.nil (gW [(0,t0),(5,.int .u32 t13),(6,.int .i64 t14),(30,.bool t30)] (n16 ?_)))
  cases t30 with
  |true=>
   exact oT hF fun hF=>oG fun n28=>W.r (oA 31 t0 (oA 32 (.int .i64 t14) (oC hc (some 33) hF fun r33 h_29 hF=>oV [] (n28 (oG fun n31=>W.r (oA 4 (strA ([]:Bytes)) (oV [(4,strA ([]:Bytes))] (n31 (oY (q15 (lZ hF [.tmp 4] [strA ([]:Bytes)] (rT res_nil))))))))))))
  |false=>
   refine oU hF fun hF=>oZ (n15 (oG fun n32=>W.r (oA 34 t0 (oC0 35 hF fun t35 hF=>oF 36 140 1 hF fun t36 hF=>oLi 37 3 hF fun t37 hF=>oA 8 (.int .i64 t37) (oV [(0,t0),(5,.int .u32 t13),(8,.int .i64 t37)] (n32 (oG fun n37=>W.r (oA 38 t0 (oC0 39 hF fun t39 hF=>oF 40 140 1 hF fun t40 hF=>oLi 41 3 hF fun t41 hF=>oA 42 (.int .u32 t13) (oI 43 .i64 hF fun t43 hF=>oI 44 .i64 hF fun t44 hF=>oC0 45 hF fun t45 hF=>oF 46 140 1 hF fun t46 hF=>oW 3 (.int .i64 t44) hF fun h_46 hF=>oV [(0,t0),(8,.int .i64 t37)] (n37 (oG fun n48=>y15 (by kernel_rfl) (hc.ok w0) (plan:=[0,1,2,3,4,5,6,7,8,9,10]) (by kernel_rfl) (by kernel_rfl) (by kernel_rfl) (WD.a 0 (some 47) t0 h_46 ?_)))))))))))));obtain⟨t48,e49,hF⟩:=obind_some hF;refine WD.b 0 (some 48) t48 h_46 (nil_chk (h:=h_46) e49) ?_;obtain⟨t49,e50,hF⟩:=obind_some hF;refine WD.b 0 (some 49) t49 h_46 (field_ptr (P:=Try.prog) (h:=h_46) (s:=140) (f:=0) (by kernel_rfl) e50) ?_
   replace hF:=obind_some hF;obtain⟨v50,e51,hF⟩:=hF
   replace hF:=obind_some hF;obtain⟨t50,c52,hF⟩:=hF
   have c52:=avStr_some c52;subst c52;refine WD.b 1 (some 50) (strA t50) h_46 (load_cell (P:=Try.prog) (h:=h_46) (t:=9) (by kernel_rfl) e51) (WD.a 0 (some 51) (.int .i64 t37) h_46 (WD.a 0 (some 52) t0 h_46 ?_));obtain⟨t53,e53,hF⟩:=obind_some hF;refine WD.b 0 (some 53) t53 h_46 (nil_chk (h:=h_46) e53) ?_;obtain⟨t54,e54,hF⟩:=obind_some hF;refine WD.b 0 (some 54) t54 h_46 (field_ptr (P:=Try.prog) (h:=h_46) (s:=140) (f:=1) (by kernel_rfl) e54) ?_
   replace hF:=obind_some hF;obtain⟨v55,e55,hF⟩:=hF
   replace hF:=obind_some hF;obtain⟨t55,c56,hF⟩:=hF
   have c56:=avInt_some c56;subst c56;refine WD.b 1 (some 55) (.int .i64 t55) h_46 (load_cell (P:=Try.prog) (h:=h_46) (t:=3) (by kernel_rfl) e55) ?_;obtain⟨t56,e57,hF⟩:=obind_some hF;exact WD.b 0 (some 56) (strA t56) h_46 (slice_str (P:=Try.prog) (h:=h_46) (t:=9) (A:=(some (.int .i64 t37))) (B:=(some (.int .i64 t55))) (by kernel_rfl) (.inl ⟨_,rfl⟩) (.inl ⟨_,rfl⟩) e57) (WD.a 0 (some 4) (strA t56) h_46 (WD.nil (gW [(4,strA t56)] (n48 (oY (lZ hF [.tmp 4] [strA t56] (rT res_nil)))))))
noncomputable def journal_Check_L0b(t6:List AV)(k11:AHeap→R)(self:Int→AHeap→R)(t7:Int)(h_22:AHeap):R:=lett (decide (t7<4)) fun (t8:Bool)=>ifB t8 (outK (opIndex Try.prog h_22 132 (some (.agg t6)) (some (.int .i64 t7))) fun v9 h_29=>obind (avAgg v9) fun t9=>lett (newH h_29 131 [.int .i64 0,.int .i64 0]) fun h_32=>obind (stRow h_32 2 t9 (newP h_29)) fun h_34=>obind (ldCell h_34 (AV.ptr (AHeap.next h_29) 0)) fun v11=>obind (avInt .i64 v11) fun t11=>lett (decide (t11<1)) fun (t12:Bool)=>lett (fun (t19:Bool) (h_40:AHeap)=>ifB t19 (some (.ret (.int .i64 2),h_40)) (lett (IntKind.i64.wrap (t7+1)) fun (t20:Int)=>self t20 h_40)) fun j19=>ifB t12 (j19 true h_34) (obind (ldCell h_34 (AV.ptr (AHeap.next h_29) 0)) fun v15=>obind (avInt .i64 v15) fun t15=>obind (ldCell h_34 (AV.ptr (AHeap.next h_29) 1)) fun v17=>obind (avInt .i64 v17) fun t17=>lett (decide (t15>t17)) fun (t18:Bool)=>j19 t18 h_34)) (k11 h_22)
noncomputable def journal_Check_L0(t6:List AV)(k11:AHeap→R):Nat→Int→AHeap→R:=iterR (fun _ _=>none) (journal_Check_L0b t6 k11)
theorem journal_Check_L0_s(t6:List AV)(k11:AHeap→R)(m:Nat):journal_Check_L0 t6 k11 (m+1)=journal_Check_L0b t6 k11 (journal_Check_L0 t6 k11 m):=rfl
noncomputable def journal_Check(call:CallF)(n:Nat)(t0:List AV)(h:AHeap):R:=outK (opBox h 56 (some (.agg t0))) fun v1 h_2=>obind (ldRow h_2 5 v1) fun t5=>callN (call 63 [.agg t5] h_2) fun r6 h_7=>obind (avAgg r6) fun t6=>lett (fun (h_12:AHeap)=>obind (fldP 4 v1) fun t21=>obind (ldCell h_12 t21) fun v22=>obind (avStr v22) fun t22=>lett (decide ((lenS t22)>64)) fun (t24:Bool)=>ifB t24 (some (.ret (.int .i64 3),h_12)) (some (.ret (.int .i64 0),h_12))) fun k11=>journal_Check_L0 t6 k11 n 0 h_7
set_option maxHeartbeats 4000000 in
set_option maxRecDepth 20000 in
theorem journal_Check_ok{call:CallF}(hc:SaysAll Try.prog call){n:Nat}{t0:List AV}{h:AHeap}{rR:ARes}{hR:AHeap}(hF:journal_Check call n t0 h=some (rR,hR)):Says Try.prog 51 [.agg t0] h rR hR:=by
 unfold journal_Check at hF;refine sO Try.func51 fun w0 m0=>wW [(0,.agg t0)] (oG fun n1=>W.r (oK 1 hF fun v1 h_2 hF=>oA 2 (.int .i64 0) (oV [(1,v1)] (n1 (W.s (fun K4 n4 e4 q4 p4=>oG fun n5=>W.r (oR 5 56 hF fun t5 hF=>oCa hc 6 hF fun t6 h_7 hF=>oA 7 (.int .i64 0) (oV [(1,v1),(6,.agg t6),(7,.int .i64 0)] (n5 ?_)))))))));obtain⟨k11,e11,hF⟩:=lett_some hF
 have J11:∀(h_12:AHeap),k11 h_12=some (rR,hR)→Go w0 m0 (Func.ntmps Try.f51) (K4 .normal) [(1,v1)] [] h_12:=by
  intro h_12 hF;rw[e11] at hF;refine n4 (oH fun n13 q13=>oG fun n14=>W.r (oF 21 56 3 hF fun t21 hF=>oLs 22 9 hF fun t22 hF=>oA 23 (.int .i64 (lenS t22)) (oB 24 hF fun t24 hF=>oV [(24,.bool t24)] (n14 ?_))))
  cases t24 with
  |true=>
   exact oT hF fun hF=>oG fun n19=>W.r (oA 2 (.int .i64 3) (oV [(2,.int .i64 3)] (n19 (oY (q13 (lZ hF [.tmp 2] [.int .i64 3] (rT res_nil)))))))
  |false=>
   exact oU hF fun hF=>oZ (n13 (oG fun n20=>W.r (oA 2 (.int .i64 0) (oV [(2,.int .i64 0)] (n20 (oY (lZ hF [.tmp 2] [.int .i64 0] (rT res_nil))))))))
 refine W.blockK (by kernel_rfl) (fun K10 n10 s10 o10 q10 p10=>W.loopK (by kernel_rfl) (fun I21 K21 b21 n21 e21 q21 p21=>?_))
 have L21:∀(m:Nat) (t7:Int) (h_22:AHeap),journal_Check_L0 t6 k11 m t7 h_22=some (rR,hR)→Go w0 m0 (Func.ntmps Try.f51) I21 [(1,v1),(6,.agg t6),(7,.int .i64 t7)] [] h_22:=by
  intro m
  induction m with
  |zero=>intro t7 h_22 hF;cases hF
  |succ m ih21=>
   intro t7 h_22 hF;rw[journal_Check_L0_s] at hF;unfold journal_Check_L0b at hF;refine b21 (oG fun n23=>W.r (oB 8 hF fun t8 hF=>oV [(1,v1),(6,.agg t6),(7,.int .i64 t7),(8,.bool t8)] (n23 (W.s (fun K25 n25 e25 q25 p25=>?_)))))
   cases t8 with
   |true=>
    refine oT hF fun hF=>oZ (n25 (oH fun n26 q26=>W.blockK (by kernel_rfl) (fun K27 n27 s27 o27 q27 p27=>oG fun n28=>W.r ?_)))
    replace hF:=outK_some hF;obtain⟨v9,h_29,e30,hF⟩:=hF
    replace hF:=obind_some hF;obtain⟨t9,c31,hF⟩:=hF
    have c31:=avAgg_some c31;subst c31;refine WL.b (some 9) (.agg t9) h_29 e30 (oN 4 hF fun h_32 hF=>oW 131 (.agg t9) hF fun h_34 hF=>oV [(1,v1),(4,(newP h_29)),(6,.agg t6),(7,.int .i64 t7)] (n28 (W.s (fun K36 n36 e36 q36 p36=>W.r (oA 10 (AV.ptr (AHeap.next h_29) 0) (oLi 11 3 hF fun t11 hF=>oB 12 hF fun t12 hF=>oA 13 (.bool t12) ?_))))));obtain⟨j19,e41,hF⟩:=lett_some hF
    have J42:∀(t19:Bool) (h_40:AHeap),j19 t19 h_40=some (rR,hR)→WL Try.prog w0 m0 (Func.ntmps Try.f51) (Code.ops (y6 (y3 (y6 (y6 (y3 (y3 (y6 (y6 (y3 (y6 (y3 (codeOf Try.f51))))))))))))) 10 K36 [(1,v1),(6,.agg t6),(7,.int .i64 t7),(19,.bool t19)] [] h_40:=by
     intro t19 h_40 hF;rw[e41] at hF;refine oV [(1,v1),(6,.agg t6),(7,.int .i64 t7),(19,.bool t19)] (n36 ?_)
     cases t19 with
     |true=>
      exact oT hF fun hF=>oG fun n43=>W.r (oA 2 (.int .i64 2) (oV [(2,.int .i64 2)] (n43 (oY (q27 (q26 (q21 (q10 (q4 (lZ hF [.tmp 2] [.int .i64 2] (rT res_nil)))))))))))
     |false=>
      exact oU hF fun hF=>oZ (n27 (n26 (W.r (oI 20 .i64 hF fun t20 hF=>oA 7 (.int .i64 t20) (oV [(1,v1),(6,.agg t6),(7,.int .i64 t20)] (n21 (gW _ (ih21 _ _ hF))))))))
    cases t12 with
    |true=>
     replace hF:=ifB_t hF
     exact WL.o (some 14) (WL.o (some 15) (WL.o (some 16) (WL.o (some 17) (WL.o (some 18) (oA 19 (.bool true) (lW _ (J42 _ _ hF)))))))
    |false=>
     replace hF:=ifB_f hF
     exact oA 14 (AV.ptr (AHeap.next h_29) 0) (oLi 15 3 hF fun t15 hF=>oA 16 (AV.ptr (AHeap.next h_29) 1) (oLi 17 3 hF fun t17 hF=>oB 18 hF fun t18 hF=>oA 19 (.bool t18) (lW _ (J42 _ _ hF))))
   |false=>
    exact oU hF fun hF=>W.exit (by kernel_rfl) (e25 (e21 (s10 (by kernel_rfl) (gW _ (J11 _ hF)))))
 exact gW _ (L21 _ _ _ hF)
noncomputable def journal_numbers(_:CallF)(_:Nat)(t0:List AV)(h:AHeap):R:=outK (opBox h 56 (some (.agg t0))) fun v1 h_2=>lett (newH h_2 132 [.int .i64 0,.int .i64 0,.int .i64 0,.int .i64 0,.int .i64 0,.int .i64 0,.int .i64 0,.int .i64 0]) fun h_4=>obind (fldP 0 v1) fun t3=>obind (ldCell h_4 t3) fun v4=>obind (avInt .i64 v4) fun t4=>obind (fldP 1 v1) fun t6=>obind (fldP 0 t6) fun t7=>obind (ldCell h_4 t7) fun v8=>obind (avInt .i64 v8) fun t8=>obind (fldP 1 v1) fun t10=>obind (fldP 1 t10) fun t11=>obind (ldCell h_4 t11) fun v12=>obind (avInt .i64 v12) fun t12=>obind (fldP 3 v1) fun t14=>obind (ldCell h_4 t14) fun v15=>obind (avInt .i64 v15) fun t15=>obind (bldS Try.prog 132 [(0,.agg ([.int .i64 t4,.int .i64 1048576]:List AV)),(1,.agg ([.int .i64 t8,.int .i64 1099511627776]:List AV)),(2,.agg ([.int .i64 t12,.int .i64 1048576]:List AV)),(3,.agg ([.int .i64 t15,.int .i64 1048576]:List AV))]) fun t17=>obind (stRow h_4 8 t17 (newP h_2)) fun h_22=>obind (ldRow h_22 8 (newP h_2)) fun w2=>some (.ret (.agg w2),h_22)
set_option maxHeartbeats 4000000 in
set_option maxRecDepth 20000 in
theorem journal_numbers_ok{call:CallF}(_:SaysAll Try.prog call){n:Nat}{t0:List AV}{h:AHeap}{rR:ARes}{hR:AHeap}(hF:journal_numbers call n t0 h=some (rR,hR)):Says Try.prog 63 [.agg t0] h rR hR:=by
 unfold journal_numbers at hF;refine sO Try.func63 fun w0 m0=>wW [(0,.agg t0)] (oG fun n1=>W.r (oK 1 hF fun v1 h_2 hF=>oN 2 hF fun h_4 hF=>oV [(1,v1),(2,(newP h_2))] (n1 (oG fun n6=>W.r (oF 3 56 0 hF fun t3 hF=>oLi 4 3 hF fun t4 hF=>oA 5 (.agg ([.int .i64 t4,.int .i64 1048576]:List AV)) (oF 6 56 1 hF fun t6 hF=>oF 7 31 0 hF fun t7 hF=>oLi 8 3 hF fun t8 hF=>oA 9 (.agg ([.int .i64 t8,.int .i64 1099511627776]:List AV)) (oF 10 56 1 hF fun t10 hF=>oF 11 31 1 hF fun t11 hF=>oLi 12 3 hF fun t12 hF=>oA 13 (.agg ([.int .i64 t12,.int .i64 1048576]:List AV)) (oF 14 56 2 hF fun t14 hF=>oLi 15 3 hF fun t15 hF=>oA 16 (.agg ([.int .i64 t15,.int .i64 1048576]:List AV)) ?_))))))));obtain⟨t17,e21,hF⟩:=obind_some hF;refine WL.val (d:=(some 17)) (v:=.agg t17) (h':=h_4) (by kernel_rfl) (by kernel_rfl) (bld_ok (by kernel_rfl) e21) (oW 132 (.agg t17) hF fun h_22 hF=>oV [(2,(newP h_2))] (n6 (oY ?_)));obtain⟨w2,e24,hF⟩:=obind_some hF;exact lZ hF [.cell 2 132] [.agg w2] (rY e24 res_nil)
noncomputable def journal_Journal_Next(_:CallF)(_:Nat)(t0:AV)(t1:Int)(h:AHeap):R:=
 lett (newH h 31 [.int .i64 0,.int .i64 0]) fun h_2=>
 outK (opBin Try.prog h_2 .eql 67 true (some t0) (some AV.nilp)) fun v8 h_6=>
 obind (avBool v8) fun t8=>
 ifB t8
 (
  obind (stRow h_6 2 ([.int .i64 0,.int .i64 0]:List AV) (newP h)) fun h_10=>
  obind (ldRow h_10 2 (newP h)) fun w4=>
  some (.ret (.tup [.agg w4,.int .i64 0]),h_10))
 (
  obind (nilC t0) fun t11=>
  obind (fldP 2 t11) fun t12=>
  obind (ldCell h_6 t12) fun v13=>
  outK (opLookup Try.prog h_6 89 false (some v13) (some (.int .i64 t1))) fun v15 h_17=>
  obind (avAgg v15) fun t15=>
  lett (newH h_17 56 [.int .i64 0,.int .i64 0,.int .i64 0,.int .i64 0,.str 0 0]) fun h_20=>
  obind (stRow h_20 5 t15 (newP h_17)) fun h_22=>
  obind (ldRow h_22 2 (AV.ptr (AHeap.next h_17) 1)) fun t17=>
  obind (ldCell h_22 (AV.ptr (AHeap.next h_17) 3)) fun v19=>
  obind (avInt .i64 v19) fun t19=>
  lett (IntKind.i64.wrap (t19+1)) fun (t20:Int)=>
  obind (stRow h_22 2 t17 (newP h)) fun h_29=>
  chk (reLoad Try.prog h_29 3 (AV.ptr (AHeap.next h_17) 3) (.int .i64 t19)&&(true&&true))<|
  obind (ldRow h_29 2 (newP h)) fun w4_33=>
  some (.ret (.tup [.agg w4_33,.int .i64 t20]),h_29))
set_option maxHeartbeats 4000000 in
set_option maxRecDepth 20000 in
theorem journal_Journal_Next_ok{call:CallF}(hc:SaysAll Try.prog call){n:Nat}{t0:AV}{t1:Int}{h:AHeap}{rR:ARes}{hR:AHeap}(hF:journal_Journal_Next call n t0 t1 h=some (rR,hR)):Says Try.prog 29 [t0,.int .i64 t1] h rR hR:=by
 unfold journal_Journal_Next at hF;refine sO Try.func29 fun w0 m0=>wW [(0,t0),(1,.int .i64 t1)] (oG fun n1=>W.r (oN 4 hF fun h_2 hF=>oA 5 (.int .i64 0) (oV [(0,t0),(1,.int .i64 t1),(4,(newP h))] (n1 (oH fun n4 q4=>oG fun n5=>W.r (oA 7 t0 ?_))))))
 replace hF:=outK_some hF;obtain⟨v8,h_6,e7,hF⟩:=hF
 replace hF:=obind_some hF;obtain⟨t8,c8,hF⟩:=hF
 have c8:=avBool_some c8;subst c8;refine WL.b (some 8) (.bool t8) h_6 e7 (oV [(0,t0),(1,.int .i64 t1),(4,(newP h)),(8,.bool t8)] (n5 ?_))
 cases t8 with
 |true=>
  refine oT hF fun hF=>oG fun n9=>W.r (oA 9 (.agg ([.int .i64 0,.int .i64 0]:List AV)) (oW 31 (.agg ([.int .i64 0,.int .i64 0]:List AV)) hF fun h_10 hF=>oA 5 (.int .i64 0) (oV [(4,(newP h)),(5,.int .i64 0)] (n9 (oY (q4 ?_))))));obtain⟨w4,e12,hF⟩:=obind_some hF;exact lZ hF [.cell 4 31,.tmp 5] [.agg w4,.int .i64 0] (rY e12 (rT res_nil))
 |false=>
  refine oU hF fun hF=>oZ (n4 (oG fun n13=>W.r (oA 10 t0 (oC0 11 hF fun t11 hF=>oF 12 91 2 hF fun t12 hF=>oL 13 89 hF fun v13 hF=>oA 14 (.int .i64 t1) ?_))))
  replace hF:=outK_some hF;obtain⟨v15,h_17,e18,hF⟩:=hF
  replace hF:=obind_some hF;obtain⟨t15,c19,hF⟩:=hF
  have c19:=avAgg_some c19;subst c19;refine WL.b (some 15) (.agg t15) h_17 e18 (oN 6 hF fun h_20 hF=>oW 56 (.agg t15) hF fun h_22 hF=>oV [(4,(newP h)),(6,(newP h_17))] (n13 (oG fun n24=>y15 (by kernel_rfl) (hc.ok w0) (plan:=[0,1,2,3,4,5,6]) (by kernel_rfl) (by kernel_rfl) (by kernel_rfl) (WD.a 0 (some 16) (AV.ptr (AHeap.next h_17) 1) h_22 ?_))));obtain⟨t17,e25,hF⟩:=obind_some hF;refine WD.b 1 (some 17) (.agg t17) h_22 (load_row (P:=Try.prog) (h:=h_22) (t:=31) (by kernel_rfl) (by kernel_rfl) e25) (WD.a 0 (some 18) (AV.ptr (AHeap.next h_17) 3) h_22 ?_)
  replace hF:=obind_some hF;obtain⟨v19,e26,hF⟩:=hF
  replace hF:=obind_some hF;obtain⟨t19,c27,hF⟩:=hF
  have c27:=avInt_some c27;subst c27;refine WD.b 1 (some 19) (.int .i64 t19) h_22 (load_cell (P:=Try.prog) (h:=h_22) (t:=3) (by kernel_rfl) e26) ?_;obtain⟨t20,e28,hF⟩:=lett_some hF;refine WD.val (d:=(some 20)) (v:=.int .i64 t20) (h':=h_22) (by kernel_rfl) (by kernel_rfl) (val_of (AV.int .i64) e28 (by kernel_rfl)) (k:=0) (by kernel_rfl) (fun e=>absurd e (by decide)) (by decide) ?_;obtain⟨h_29,e30,hF⟩:=obind_some hF;obtain⟨k31,hF⟩:=chk_some hF;refine WD.eff (h':=h_29) (by kernel_rfl) (by kernel_rfl) (Eq.trans (by kernel_rfl) (store_row (P:=Try.prog) (h:=h_22) (t:=31) (v:=(.agg t17)) (by kernel_rfl) (by kernel_rfl) e30)) (k:=2) (by kernel_rfl) (fun _=>(Eq.trans (by kernel_rfl) k31)) (by decide) (WD.a 0 (some 5) (.int .i64 t20) h_29 (WD.nil (gW [(4,(newP h)),(5,.int .i64 t20)] (n24 (oY ?_)))));obtain⟨w4_33,e32,hF⟩:=obind_some hF;exact lZ hF [.cell 4 31,.tmp 5] [.agg w4_33,.int .i64 t20] (rY e32 (rT res_nil))
noncomputable def journal_Journal_Add(call:CallF)(_:Nat)(t0:AV)(t1:List AV)(h:AHeap):R:=outK (opBox h 56 (some (.agg t1))) fun v3 h_2=>outK (opBin Try.prog h_2 .eql 67 true (some t0) (some AV.nilp)) fun v10 h_6=>obind (avBool v10) fun t10=>ifB t10 (some (.ret (.int .i64 1),h_6)) (obind (nilC t0) fun t12=>obind (fldP 3 t12) fun t13=>obind (ldCell h_6 t13) fun v14=>obind (avInt .i64 v14) fun t14=>lett ((t14:Int) != 0) fun (t15:Bool)=>ifB t15 (obind (nilC t0) fun t17=>obind (fldP 3 t17) fun t18=>obind (ldCell h_6 t18) fun v19=>obind (avInt .i64 v19) fun t19=>some (.ret (.int .i64 t19),h_6)) (obind (ldRow h_6 5 v3) fun t20=>callN (call 51 [.agg t20] h_6) fun r21 h_25=>obind (avInt .i64 r21) fun t21=>lett ((t21:Int) != 0) fun (t23:Bool)=>ifB t23 (some (.ret (.int .i64 t21),h_25)) (obind (ldRow h_25 5 v3) fun t26=>callN (call 47 [t0,.agg t26] h_25) fun r27 h_34=>obind (avInt .i64 r27) fun t27=>lett ((t27:Int) != 0) fun (t29:Bool)=>ifB t29 (some (.ret (.int .i64 t27),h_34)) (obind (ldRow h_34 5 v3) fun t32=>callN (call 52 [.agg t32] h_34) fun r33 h_42=>obind (extT 0 r33) fun v34=>obind (avStr v34) fun t34=>obind (extT 1 r33) fun v35=>obind (avInt .i64 v35) fun t35=>lett ((t35:Int) != 0) fun (t37:Bool)=>ifB t37 (some (.ret (.int .i64 t35),h_42)) (obind (nilC t0) fun t41=>obind (fldP 0 t41) fun t42=>obind (ldCell h_42 t42) fun v43=>callN (call 53 [v43,.int .i64 0,strA t34] h_42) fun r45 h_56=>obind (avInt .i64 r45) fun t45=>obind (nilC t0) fun t46=>obind (fldP 3 t46) fun t47=>obind (stRow h_56 1 [.int .i64 t45] t47) fun h_61=>obind (nilC t0) fun t49=>obind (fldP 3 t49) fun t50=>obind (ldCell h_61 t50) fun v51=>obind (avInt .i64 v51) fun t51=>lett ((t51:Int) == 0) fun (t52:Bool)=>lett (fun (h_71:AHeap)=>obind (nilC t0) fun t62=>obind (fldP 3 t62) fun t63=>obind (ldCell h_71 t63) fun v64=>obind (avInt .i64 v64) fun t64=>lett ((t64:Int) == 0) fun (t65:Bool)=>lett (fun (h_80:AHeap)=>obind (nilC t0) fun t70=>obind (fldP 3 t70) fun t71=>obind (ldCell h_80 t71) fun v72=>obind (avInt .i64 v72) fun t72=>some (.ret (.int .i64 t72),h_80)) fun k79=>ifB t65 (obind (ldRow h_71 5 v3) fun t67=>callN (call 48 [t0,.agg t67] h_71) fun _ h_87=>k79 h_87) (k79 h_71)) fun k70=>ifB t52 (obind (nilC t0) fun t55=>obind (fldP 0 t55) fun t56=>obind (ldCell h_61 t56) fun v57=>callN (call 22 [v57,.int .i64 0] h_61) fun r58 h_92=>obind (avInt .i64 r58) fun t58=>obind (nilC t0) fun t59=>obind (fldP 3 t59) fun t60=>obind (stRow h_92 1 [.int .i64 t58] t60) fun h_97=>k70 h_97) (k70 h_61))))))
set_option maxHeartbeats 4000000 in
set_option maxRecDepth 20000 in
theorem journal_Journal_Add_ok{call:CallF}(hc:SaysAll Try.prog call){n:Nat}{t0:AV}{t1:List AV}{h:AHeap}{rR:ARes}{hR:AHeap}(hF:journal_Journal_Add call n t0 t1 h=some (rR,hR)):Says Try.prog 40 [t0,.agg t1] h rR hR:=by
 unfold journal_Journal_Add at hF;refine sO Try.func40 fun w0 m0=>wW [(0,t0),(1,.agg t1)] (oG fun n1=>W.r (oK 3 hF fun v3 h_2 hF=>oA 4 (.int .i64 0) (oV [(0,t0),(3,v3)] (n1 (oH fun n4 q4=>oG fun n5=>W.r (oA 9 t0 ?_))))))
 replace hF:=outK_some hF;obtain⟨v10,h_6,e7,hF⟩:=hF
 replace hF:=obind_some hF;obtain⟨t10,c8,hF⟩:=hF
 have c8:=avBool_some c8;subst c8;refine WL.b (some 10) (.bool t10) h_6 e7 (oV [(0,t0),(3,v3),(10,.bool t10)] (n5 ?_))
 cases t10 with
 |true=>
  exact oT hF fun hF=>oG fun n9=>W.r (oA 4 (.int .i64 1) (oV [(4,.int .i64 1)] (n9 (oY (q4 (lZ hF [.tmp 4] [.int .i64 1] (rT res_nil)))))))
 |false=>
  refine oU hF fun hF=>oZ (n4 (oH fun n10 q10=>oG fun n11=>W.r (oA 11 t0 (oC0 12 hF fun t12 hF=>oF 13 91 3 hF fun t13 hF=>oLi 14 26 hF fun t14 hF=>oB 15 hF fun t15 hF=>oV [(0,t0),(3,v3),(15,.bool t15)] (n11 ?_)))))
  cases t15 with
  |true=>
   exact oT hF fun hF=>oG fun n17=>W.r (oA 16 t0 (oC0 17 hF fun t17 hF=>oF 18 91 3 hF fun t18 hF=>oLi 19 26 hF fun t19 hF=>oA 4 (.int .i64 t19) (oV [(4,.int .i64 t19)] (n17 (oY (q10 (lZ hF [.tmp 4] [.int .i64 t19] (rT res_nil))))))))
  |false=>
   refine oU hF fun hF=>oZ (n10 (oH fun n22 q22=>oG fun n23=>W.r (oR 20 56 hF fun t20 hF=>oCi hc 21 hF fun t21 h_25 hF=>oA 5 (.int .i64 t21) (oV [(0,t0),(3,v3),(5,.int .i64 t21)] (n23 (oG fun n28=>W.r (oA 22 (.int .i64 t21) (oB 23 hF fun t23 hF=>oV [(0,t0),(3,v3),(5,.int .i64 t21),(23,.bool t23)] (n28 ?_)))))))))
   cases t23 with
   |true=>
    exact oT hF fun hF=>oG fun n30=>W.r (oA 24 (.int .i64 t21) (oA 4 (.int .i64 t21) (oV [(4,.int .i64 t21)] (n30 (oY (q22 (lZ hF [.tmp 4] [.int .i64 t21] (rT res_nil))))))))
   |false=>
    refine oU hF fun hF=>oZ (n22 (oH fun n31 q31=>oG fun n32=>W.r (oA 25 t0 (oR 26 56 hF fun t26 hF=>oCi hc 27 hF fun t27 h_34 hF=>oA 6 (.int .i64 t27) (oV [(0,t0),(3,v3),(6,.int .i64 t27)] (n32 (oG fun n37=>W.r (oA 28 (.int .i64 t27) (oB 29 hF fun t29 hF=>oV [(0,t0),(3,v3),(6,.int .i64 t27),(29,.bool t29)] (n37 ?_))))))))))
    cases t29 with
    |true=>
     exact oT hF fun hF=>oG fun n39=>W.r (oA 30 (.int .i64 t27) (oA 4 (.int .i64 t27) (oV [(4,.int .i64 t27)] (n39 (oY (q31 (lZ hF [.tmp 4] [.int .i64 t27] (rT res_nil))))))))
    |false=>
     refine oU hF fun hF=>oZ (n31 (oG fun n40=>W.r (oR 32 56 hF fun t32 hF=>oC hc (some 33) hF fun r33 h_42 hF=>oA 31 r33 (oEs 34 hF fun t34 hF=>oEi 35 hF fun t35 hF=>oA 7 (strA t34) (oA 8 (.int .i64 t35) (oV [(0,t0),(3,v3),(7,strA t34),(8,.int .i64 t35)] (n40 (oH fun n48 q48=>oG fun n49=>W.r (oA 36 (.int .i64 t35) (oB 37 hF fun t37 hF=>oV [(0,t0),(3,v3),(7,strA t34),(8,.int .i64 t35),(37,.bool t37)] (n49 ?_)))))))))))
     cases t37 with
     |true=>
      exact oT hF fun hF=>oG fun n51=>W.r (oA 38 (.int .i64 t35) (oA 4 (.int .i64 t35) (oV [(4,.int .i64 t35)] (n51 (oY (q48 (lZ hF [.tmp 4] [.int .i64 t35] (rT res_nil))))))))
     |false=>
      refine oU hF fun hF=>oZ (n48 (oG fun n52=>W.r (oA 39 t0 (oA 40 t0 (oC0 41 hF fun t41 hF=>oF 42 91 0 hF fun t42 hF=>oL 43 23 hF fun v43 hF=>oA 44 (strA t34) (oCi hc 45 hF fun t45 h_56 hF=>oC0 46 hF fun t46 hF=>oF 47 91 3 hF fun t47 hF=>oW 26 (.int .i64 t45) hF fun h_61 hF=>oV [(0,t0),(3,v3)] (n52 (W.s (fun K63 n63 e63 q63 p63=>oG fun n64=>W.r (oA 48 t0 (oC0 49 hF fun t49 hF=>oF 50 91 3 hF fun t50 hF=>oLi 51 26 hF fun t51 hF=>oB 52 hF fun t52 hF=>oV [(0,t0),(3,v3),(52,.bool t52)] (n64 ?_))))))))))));obtain⟨k70,e70,hF⟩:=lett_some hF
      have J70:∀(h_71:AHeap),k70 h_71=some (rR,hR)→Go w0 m0 (Func.ntmps Try.f40) (K63 .normal) [(0,t0),(3,v3)] [] h_71:=by
       intro h_71 hF;rw[e70] at hF;refine n63 (W.s (fun K72 n72 e72 q72 p72=>oG fun n73=>W.r (oA 61 t0 (oC0 62 hF fun t62 hF=>oF 63 91 3 hF fun t63 hF=>oLi 64 26 hF fun t64 hF=>oB 65 hF fun t65 hF=>oV [(0,t0),(3,v3),(65,.bool t65)] (n73 ?_)))));obtain⟨k79,e79,hF⟩:=lett_some hF
       have J79:∀(h_80:AHeap),k79 h_80=some (rR,hR)→Go w0 m0 (Func.ntmps Try.f40) (K72 .normal) [(0,t0)] [] h_80:=by
        intro h_80 hF;rw[e79] at hF;exact n72 (oG fun n81=>W.r (oA 69 t0 (oC0 70 hF fun t70 hF=>oF 71 91 3 hF fun t71 hF=>oLi 72 26 hF fun t72 hF=>oA 4 (.int .i64 t72) (oV [(4,.int .i64 t72)] (n81 (oY (lZ hF [.tmp 4] [.int .i64 t72] (rT res_nil))))))))
       cases t65 with
       |true=>
        exact oT hF fun hF=>W.r (oA 66 t0 (oR 67 56 hF fun t67 hF=>oC hc (some 68) hF fun r68 h_87 hF=>oV [(0,t0)] (gW _ (J79 _ hF))))
       |false=>
        exact oU hF fun hF=>oZ (gW _ (J79 _ hF))
      cases t52 with
      |true=>
       exact oT hF fun hF=>W.r (oA 53 t0 (oA 54 t0 (oC0 55 hF fun t55 hF=>oF 56 91 0 hF fun t56 hF=>oL 57 23 hF fun v57 hF=>oCi hc 58 hF fun t58 h_92 hF=>oC0 59 hF fun t59 hF=>oF 60 91 3 hF fun t60 hF=>oW 26 (.int .i64 t58) hF fun h_97 hF=>oV [(0,t0),(3,v3)] (gW _ (J70 _ hF)))))
      |false=>
       exact oU hF fun hF=>oZ (gW _ (J70 _ hF))
noncomputable def journal_Journal_refuses(call:CallF)(_:Nat)(t0:AV)(t1:List AV)(h:AHeap):R:=outK (opBox h 56 (some (.agg t1))) fun v3 h_2=>obind (fldP 0 v3) fun t9=>obind (ldCell h_2 t9) fun v10=>obind (avInt .i64 v10) fun t10=>callN (call 29 [t0,.int .i64 t10] h_2) fun r11 h_8=>obind (extT 0 r11) fun v12=>obind (avAgg v12) fun t12=>obind (extT 1 r11) fun v13=>obind (avInt .i64 v13) fun t13=>lett (newH h_8 31 [.int .i64 0,.int .i64 0]) fun h_14=>obind (stRow h_14 2 t12 (newP h_8)) fun h_16=>obind (ldRow h_16 2 (newP h_8)) fun t14=>obind (fldP 1 v3) fun t15=>obind (ldRow h_16 2 t15) fun t16=>callN (call 19 [.agg t14,.agg t16] h_16) fun r17 h_23=>obind (avBool r17) fun t17=>ifB t17 (some (.ret (.int .i64 220),h_23)) (obind (fldP 3 v3) fun t18=>obind (ldCell h_23 t18) fun v19=>obind (avInt .i64 v19) fun t19=>lett ((t19:Int) != t13) fun (t21:Bool)=>ifB t21 (some (.ret (.int .i64 221),h_23)) (some (.ret (.int .i64 0),h_23)))
set_option maxHeartbeats 4000000 in
set_option maxRecDepth 20000 in
theorem journal_Journal_refuses_ok{call:CallF}(hc:SaysAll Try.prog call){n:Nat}{t0:AV}{t1:List AV}{h:AHeap}{rR:ARes}{hR:AHeap}(hF:journal_Journal_refuses call n t0 t1 h=some (rR,hR)):Says Try.prog 47 [t0,.agg t1] h rR hR:=by
 unfold journal_Journal_refuses at hF;refine sO Try.func47 fun w0 m0=>wW [(0,t0),(1,.agg t1)] (oG fun n1=>W.r (oK 3 hF fun v3 h_2 hF=>oA 4 (.int .i64 0) (oV [(0,t0),(3,v3)] (n1 (oG fun n4=>W.r (oA 8 t0 (oF 9 56 0 hF fun t9 hF=>oLi 10 3 hF fun t10 hF=>oC hc (some 11) hF fun r11 h_8 hF=>oA 7 r11 (oEa 12 hF fun t12 hF=>oEi 13 hF fun t13 hF=>oN 5 hF fun h_14 hF=>oW 31 (.agg t12) hF fun h_16 hF=>oA 6 (.int .i64 t13) (oV [(3,v3),(5,(newP h_8)),(6,.int .i64 t13)] (n4 (oH fun n18 q18=>oG fun n19=>W.r (oR 14 31 hF fun t14 hF=>oF 15 56 1 hF fun t15 hF=>oR 16 31 hF fun t16 hF=>oCb hc 17 hF fun t17 h_23 hF=>oV [(3,v3),(6,.int .i64 t13),(17,.bool t17)] (n19 ?_)))))))))))))
 cases t17 with
 |true=>
  exact oT hF fun hF=>oG fun n26=>W.r (oA 4 (.int .i64 220) (oV [(4,.int .i64 220)] (n26 (oY (q18 (lZ hF [.tmp 4] [.int .i64 220] (rT res_nil)))))))
 |false=>
  refine oU hF fun hF=>oZ (n18 (oH fun n27 q27=>oG fun n28=>W.r (oF 18 56 2 hF fun t18 hF=>oLi 19 3 hF fun t19 hF=>oA 20 (.int .i64 t13) (oB 21 hF fun t21 hF=>oV [(21,.bool t21)] (n28 ?_)))))
  cases t21 with
  |true=>
   exact oT hF fun hF=>oG fun n33=>W.r (oA 4 (.int .i64 221) (oV [(4,.int .i64 221)] (n33 (oY (q27 (lZ hF [.tmp 4] [.int .i64 221] (rT res_nil)))))))
  |false=>
   exact oU hF fun hF=>oZ (n27 (oG fun n34=>W.r (oA 4 (.int .i64 0) (oV [(4,.int .i64 0)] (n34 (oY (lZ hF [.tmp 4] [.int .i64 0] (rT res_nil))))))))
noncomputable def journal_Journal_put(_:CallF)(_:Nat)(t0:AV)(t1:List AV)(h:AHeap):R:=
 outK (opBox h 56 (some (.agg t1))) fun v3 h_2=>
 obind (nilC t0) fun t6=>
 obind (fldP 1 t6) fun t7=>
 obind (ldCell h_2 t7) fun v8=>
 obind (ldRow h_2 5 v3) fun t9=>
 outK (bldSl Try.prog h_2 45 1 [(0,.agg t9)]) fun v10 h_9=>
 chk (true&&(reLoad Try.prog h_9 45 t7 v8&&true))<|
 outK (opAppend Try.prog h_9 45 45 v8 v10) fun v11 h_12=>
 obind (nilC t0) fun t12=>
 obind (fldP 1 t12) fun t13=>
 obind (stRow h_12 1 (AV.cells v11) t13) fun h_16=>
 obind (nilC t0) fun t15=>
 obind (fldP 2 t15) fun t16=>
 obind (ldCell h_16 t16) fun v17=>
 obind (fldP 0 v3) fun t18=>
 obind (ldCell h_16 t18) fun v19=>
 obind (avInt .i64 v19) fun t19=>
 obind (ldRow h_16 5 v3) fun t20=>
 effK (opMapUpdate Try.prog h_16 89 (some v17) (some (.int .i64 t19)) (some (.agg t20))) fun h_25=>
 some (.ret (.tup []),h_25)
set_option maxHeartbeats 4000000 in
set_option maxRecDepth 20000 in
theorem journal_Journal_put_ok{call:CallF}(hc:SaysAll Try.prog call){n:Nat}{t0:AV}{t1:List AV}{h:AHeap}{rR:ARes}{hR:AHeap}(hF:journal_Journal_put call n t0 t1 h=some (rR,hR)):Says Try.prog 48 [t0,.agg t1] h rR hR:=by
 unfold journal_Journal_put at hF;refine sO Try.func48 fun w0 m0=>wW [(0,t0),(1,.agg t1)] (oG fun n1=>W.r (oK 3 hF fun v3 h_2 hF=>oV [(0,t0),(3,v3)] (n1 (oG fun n4=>y15 (by kernel_rfl) (hc.ok w0) (plan:=[0,1,2,3,4,5,6,7,8,9,10]) (by kernel_rfl) (by kernel_rfl) (by kernel_rfl) (WD.a 0 (some 4) t0 h_2 (WD.a 0 (some 5) t0 h_2 ?_))))));obtain⟨t6,e5,hF⟩:=obind_some hF;refine WD.b 0 (some 6) t6 h_2 (nil_chk (h:=h_2) e5) ?_;obtain⟨t7,e6,hF⟩:=obind_some hF;refine WD.b 0 (some 7) t7 h_2 (field_ptr (P:=Try.prog) (h:=h_2) (s:=91) (f:=1) (by kernel_rfl) e6) ?_;obtain⟨v8,e7,hF⟩:=obind_some hF;refine WD.b 1 (some 8) v8 h_2 (load_cell (P:=Try.prog) (h:=h_2) (t:=45) (by kernel_rfl) e7) ?_;obtain⟨t9,e8,hF⟩:=obind_some hF;refine WD.b 1 (some 9) (.agg t9) h_2 (load_row (P:=Try.prog) (h:=h_2) (t:=56) (by kernel_rfl) (by kernel_rfl) e8) ?_;obtain⟨v10,h_9,e10,hF⟩:=outK_some hF;obtain⟨k11,hF⟩:=chk_some hF;refine WD.val (d:=(some 10)) (v:=v10) (h':=h_9) (by kernel_rfl) (by kernel_rfl) (Eq.trans (by kernel_rfl) e10) (k:=2) (by kernel_rfl) (fun _=>(Eq.trans (by kernel_rfl) k11)) (by decide) ?_;obtain⟨v11,h_12,e13,hF⟩:=outK_some hF;refine WD.val (d:=(some 11)) (v:=v11) (h':=h_12) (by kernel_rfl) (by kernel_rfl) (Eq.trans (by kernel_rfl) e13) (k:=2) (by kernel_rfl) (fun _=>(by kernel_rfl)) (by decide) ?_;obtain⟨t12,e14,hF⟩:=obind_some hF;refine WD.b 0 (some 12) t12 h_12 (nil_chk (h:=h_12) e14) ?_;obtain⟨t13,e15,hF⟩:=obind_some hF;refine WD.b 0 (some 13) t13 h_12 (field_ptr (P:=Try.prog) (h:=h_12) (s:=91) (f:=1) (by kernel_rfl) e15) ?_;obtain⟨h_16,e17,hF⟩:=obind_some hF;refine WD.eff (h':=h_16) (by kernel_rfl) (by kernel_rfl) (Eq.trans (by kernel_rfl) (store_row (P:=Try.prog) (h:=h_12) (t:=45) (v:=v11) (by kernel_rfl) (by kernel_rfl) e17)) (k:=2) (by kernel_rfl) (fun _=>(by kernel_rfl)) (by decide) (WD.nil (gW [(0,t0),(3,v3)] (n4 (y15 (by kernel_rfl) (hc.ok w0) (plan:=[0,1,2,3,4,5,6,7]) (by kernel_rfl) (by kernel_rfl) (by kernel_rfl) (WD.a 0 (some 14) t0 h_16 ?_)))));obtain⟨t15,e18,hF⟩:=obind_some hF;refine WD.b 0 (some 15) t15 h_16 (nil_chk (h:=h_16) e18) ?_;obtain⟨t16,e19,hF⟩:=obind_some hF;refine WD.b 0 (some 16) t16 h_16 (field_ptr (P:=Try.prog) (h:=h_16) (s:=91) (f:=2) (by kernel_rfl) e19) ?_;obtain⟨v17,e20,hF⟩:=obind_some hF;refine WD.b 1 (some 17) v17 h_16 (load_cell (P:=Try.prog) (h:=h_16) (t:=89) (by kernel_rfl) e20) ?_;obtain⟨t18,e21,hF⟩:=obind_some hF;refine WD.b 0 (some 18) t18 h_16 (field_ptr (P:=Try.prog) (h:=h_16) (s:=56) (f:=0) (by kernel_rfl) e21) ?_
 replace hF:=obind_some hF;obtain⟨v19,e22,hF⟩:=hF
 replace hF:=obind_some hF;obtain⟨t19,c23,hF⟩:=hF
 have c23:=avInt_some c23;subst c23;refine WD.b 1 (some 19) (.int .i64 t19) h_16 (load_cell (P:=Try.prog) (h:=h_16) (t:=3) (by kernel_rfl) e22) ?_;obtain⟨t20,e24,hF⟩:=obind_some hF;refine WD.b 1 (some 20) (.agg t20) h_16 (load_row (P:=Try.prog) (h:=h_16) (t:=56) (by kernel_rfl) (by kernel_rfl) e24) ?_;obtain⟨h_25,e26,hF⟩:=effK_some hF;exact WD.eff (h':=h_25) (by kernel_rfl) (by kernel_rfl) (Eq.trans (by kernel_rfl) e26) (k:=2) (by kernel_rfl) (fun _=>(by kernel_rfl)) (by decide) (WD.nil (gW [] (lY hF [] [] res_nil)))
noncomputable def journal_Journal_All(_:CallF)(_:Nat)(t0:AV)(h:AHeap):R:=outK (opBox h 67 (some t0)) fun v1 h_2=>some (.ret (AV.fn 56 [] [v1]),h_2)
set_option maxHeartbeats 4000000 in
set_option maxRecDepth 20000 in
theorem journal_Journal_All_ok{call:CallF}(_:SaysAll Try.prog call){n:Nat}{t0:AV}{h:AHeap}{rR:ARes}{hR:AHeap}(hF:journal_Journal_All call n t0 h=some (rR,hR)):Says Try.prog 44 [t0] h rR hR:=by
 unfold journal_Journal_All at hF;exact sO Try.func44 fun w0 m0=>wW [(0,t0)] (oG fun n1=>W.r (oK 1 hF fun v1 h_2 hF=>oA 2 AV.nfn (oV [(1,v1)] (n1 (oG fun n4=>W.r (oA 3 (AV.fn 56 [] [v1]) (oA 2 (AV.fn 56 [] [v1]) (oV [(2,(AV.fn 56 [] [v1]))] (n4 (oY (lZ hF [.tmp 2] [(AV.fn 56 [] [v1])] (rT res_nil))))))))))))
noncomputable def journal_framed_L0b(call:CallF)(t10:List AV)(k12:Bytes→AHeap→R)(self:Bytes→Int→AHeap→R)(t4_37:Bytes)(t11:Int)(h_38:AHeap):R:=lett (decide (t11<4)) fun (t12:Bool)=>ifB t12 (outK (opIndex Try.prog h_38 132 (some (.agg t10)) (some (.int .i64 t11))) fun v13 h_45=>obind (avAgg v13) fun t13=>lett (newH h_45 131 [.int .i64 0,.int .i64 0]) fun h_48=>obind (stRow h_48 2 t13 (newP h_45)) fun h_50=>obind (ldCell h_50 (AV.ptr (AHeap.next h_45) 0)) fun v16=>obind (avInt .i64 v16) fun t16=>lett (IntKind.u64.wrap t16) fun (t17:Int)=>callN (call 64 [.int .u64 t17] h_50) fun r18 h_55=>obind (avStr r18) fun t18=>obind (addS t4_37 t18) fun t19=>lett (IntKind.i64.wrap (t11+1)) fun (t20:Int)=>self t19 t20 h_55) (k12 t4_37 h_38)
noncomputable def journal_framed_L0(call:CallF)(t10:List AV)(k12:Bytes→AHeap→R):Nat→Bytes→Int→AHeap→R:=iterR (fun _ _ _=>none) (journal_framed_L0b call t10 k12)
theorem journal_framed_L0_s(call:CallF)(t10:List AV)(k12:Bytes→AHeap→R)(m:Nat):journal_framed_L0 call t10 k12 (m+1)=journal_framed_L0b call t10 k12 (journal_framed_L0 call t10 k12 m):=rfl
noncomputable def journal_framed(call:CallF)(n:Nat)(t0:List AV)(h:AHeap):R:=outK (opBox h 56 (some (.agg t0))) fun v1 h_2=>obind (ldRow h_2 5 v1) fun t9=>callN (call 63 [.agg t9] h_2) fun r10 h_8=>obind (avAgg r10) fun t10=>lett (fun (t4:Bytes) (h_13:AHeap)=>obind (fldP 4 v1) fun t22=>obind (ldCell h_13 t22) fun v23=>obind (avStr v23) fun t23=>callN (call 65 [strA t23] h_13) fun r24 h_18=>obind (extT 0 r24) fun v25=>obind (avStr v25) fun t25=>obind (extT 1 r24) fun v26=>obind (avInt .i64 v26) fun t26=>lett ((t26:Int) != 0) fun (t28:Bool)=>ifB t28 (some (.ret (.tup [strA ([]:Bytes),.int .i64 t26]),h_18)) (obind (addS t4 t25) fun t32=>callN (call 66 [strA t32] h_18) fun r33 h_30=>obind (extT 0 r33) fun v34=>obind (avStr v34) fun t34=>obind (extT 1 r33) fun v35=>obind (avInt .i64 v35) fun t35=>some (.ret (.tup [strA t34,.int .i64 t35]),h_30))) fun k12=>journal_framed_L0 call t10 k12 n ([]:Bytes) 0 h_8
set_option maxHeartbeats 4000000 in
set_option maxRecDepth 20000 in
theorem journal_framed_ok{call:CallF}(hc:SaysAll Try.prog call){n:Nat}{t0:List AV}{h:AHeap}{rR:ARes}{hR:AHeap}(hF:journal_framed call n t0 h=some (rR,hR)):Says Try.prog 52 [.agg t0] h rR hR:=by
 unfold journal_framed at hF;refine sO Try.func52 fun w0 m0=>wW [(0,.agg t0)] (oG fun n1=>W.r (oK 1 hF fun v1 h_2 hF=>oA 2 (strA ([]:Bytes)) (oA 3 (.int .i64 0) (oV [(1,v1)] (n1 (oG fun n4=>W.r (oA 4 (strA ([]:Bytes)) (oV [(1,v1),(4,strA ([]:Bytes))] (n4 (W.s (fun K5 n5 e5 q5 p5=>oG fun n6=>W.r (oR 9 56 hF fun t9 hF=>oCa hc 10 hF fun t10 h_8 hF=>oA 11 (.int .i64 0) (oV [(1,v1),(4,strA ([]:Bytes)),(10,.agg t10),(11,.int .i64 0)] (n6 ?_))))))))))))));obtain⟨k12,e12,hF⟩:=lett_some hF
 have J12:∀(t4:Bytes) (h_13:AHeap),k12 t4 h_13=some (rR,hR)→Go w0 m0 (Func.ntmps Try.f52) (K5 .normal) [(1,v1),(4,strA t4)] [] h_13:=by
  intro t4 h_13 hF;rw[e12] at hF;refine n5 (oG fun n14=>W.r (oF 22 56 3 hF fun t22 hF=>oLs 23 9 hF fun t23 hF=>oC hc (some 24) hF fun r24 h_18 hF=>oA 21 r24 (oEs 25 hF fun t25 hF=>oEi 26 hF fun t26 hF=>oA 7 (strA t25) (oA 8 (.int .i64 t26) (oV [(4,strA t4),(7,strA t25),(8,.int .i64 t26)] (n14 (oH fun n24 q24=>oG fun n25=>W.r (oA 27 (.int .i64 t26) (oB 28 hF fun t28 hF=>oV [(4,strA t4),(7,strA t25),(8,.int .i64 t26),(28,.bool t28)] (n25 ?_))))))))))
  cases t28 with
  |true=>
   exact oT hF fun hF=>oG fun n27=>W.r (oA 29 (.int .i64 t26) (oA 2 (strA ([]:Bytes)) (oA 3 (.int .i64 t26) (oV [(2,strA ([]:Bytes)),(3,.int .i64 t26)] (n27 (oY (q24 (lZ hF [.tmp 2,.tmp 3] [strA ([]:Bytes),.int .i64 t26] (rT (rT res_nil))))))))))
  |false=>
   refine oU hF fun hF=>oZ (n24 (oG fun n28=>W.r (oA 30 (strA t4) (oA 31 (strA t25) ?_))));obtain⟨t32,e29,hF⟩:=obind_some hF;exact WL.b (some 32) (strA t32) h_18 (add_str (P:=Try.prog) (h:=h_18) (t:=9) (lit:=false) e29) (oC hc (some 33) hF fun r33 h_30 hF=>oEs 34 hF fun t34 hF=>oEi 35 hF fun t35 hF=>oA 2 (strA t34) (oA 3 (.int .i64 t35) (oV [(2,strA t34),(3,.int .i64 t35)] (n28 (oY (lZ hF [.tmp 2,.tmp 3] [strA t34,.int .i64 t35] (rT (rT res_nil))))))))
 refine W.blockK (by kernel_rfl) (fun K11 n11 s11 o11 q11 p11=>W.loopK (by kernel_rfl) (fun I36 K36 b36 n36 e36 q36 p36=>?_))
 have L36:∀(m:Nat) (t4_37:Bytes) (t11:Int) (h_38:AHeap),journal_framed_L0 call t10 k12 m t4_37 t11 h_38=some (rR,hR)→Go w0 m0 (Func.ntmps Try.f52) I36 [(1,v1),(4,strA t4_37),(10,.agg t10),(11,.int .i64 t11)] [] h_38:=by
  intro m
  induction m with
  |zero=>intro t4_37 t11 h_38 hF;cases hF
  |succ m ih36=>
   intro t4_37 t11 h_38 hF;rw[journal_framed_L0_s] at hF;unfold journal_framed_L0b at hF;refine b36 (oG fun n39=>W.r (oB 12 hF fun t12 hF=>oV [(1,v1),(4,strA t4_37),(10,.agg t10),(11,.int .i64 t11),(12,.bool t12)] (n39 (W.s (fun K41 n41 e41 q41 p41=>?_)))))
   cases t12 with
   |true=>
    refine oT hF fun hF=>oZ (n41 (oG fun n42=>W.blockK (by kernel_rfl) (fun K43 n43 s43 o43 q43 p43=>oG fun n44=>W.r ?_)))
    replace hF:=outK_some hF;obtain⟨v13,h_45,e46,hF⟩:=hF
    replace hF:=obind_some hF;obtain⟨t13,c47,hF⟩:=hF
    have c47:=avAgg_some c47;subst c47;refine WL.b (some 13) (.agg t13) h_45 e46 (oN 6 hF fun h_48 hF=>oW 131 (.agg t13) hF fun h_50 hF=>oV [(1,v1),(4,strA t4_37),(6,(newP h_45)),(10,.agg t10),(11,.int .i64 t11)] (n44 (W.r (oA 14 (strA t4_37) (oA 15 (AV.ptr (AHeap.next h_45) 0) (oLi 16 3 hF fun t16 hF=>oI 17 .u64 hF fun t17 hF=>oCs hc 18 hF fun t18 h_55 hF=>?_))))));obtain⟨t19,e58,hF⟩:=obind_some hF;exact WL.b (some 19) (strA t19) h_55 (add_str (P:=Try.prog) (h:=h_55) (t:=9) (lit:=false) e58) (oA 4 (strA t19) (oV [(1,v1),(4,strA t19),(10,.agg t10),(11,.int .i64 t11)] (n43 (n42 (W.r (oI 20 .i64 hF fun t20 hF=>oA 11 (.int .i64 t20) (oV [(1,v1),(4,strA t19),(10,.agg t10),(11,.int .i64 t20)] (n36 (gW _ (ih36 _ _ _ hF))))))))))
   |false=>
    exact oU hF fun hF=>W.exit (by kernel_rfl) (e41 (e36 (s11 (by kernel_rfl) (gW _ (J12 _ _ hF)))))
 exact gW _ (L36 _ _ _ _ hF)
noncomputable def journal_sendOf_L0b(call:CallF)(r8:AV)(h_5:AHeap)(k13:AHeap→R)(self:Int→AHeap→R)(t9:Int)(h_62:AHeap):R:=
 lett (decide (t9<4)) fun (t10:Bool)=>
 ifB t10
 (
  callN (call 60 [r8] h_62) fun r14 h_69=>
  obind (avInt .u64 r14) fun t14=>
  lett (if 1099511627777<t14 then 1099511627777 else t14) fun (t15:Int)=>
  lett (IntKind.i64.wrap t15) fun (t16:Int)=>
  obind (idxA 4 1 (newP h_5) t9) fun t17=>
  obind (stRow h_69 1 [.int .i64 t16] t17) fun h_75=>
  lett (IntKind.i64.wrap (t9+1)) fun (t18:Int)=>
  self t18 h_75)
 (
  k13 h_62)
noncomputable def journal_sendOf_L0(call:CallF)(r8:AV)(h_5:AHeap)(k13:AHeap→R):Nat→Int→AHeap→R:=iterR (fun _ _=>none) (journal_sendOf_L0b call r8 h_5 k13)
theorem journal_sendOf_L0_s(call:CallF)(r8:AV)(h_5:AHeap)(k13:AHeap→R)(m:Nat):journal_sendOf_L0 call r8 h_5 k13 (m+1)=journal_sendOf_L0b call r8 h_5 k13 (journal_sendOf_L0 call r8 h_5 k13 m):=rfl
noncomputable def journal_sendOf(call:CallF)(n:Nat)(t0:Bytes)(h:AHeap):R:=
 lett (newH h 56 [.int .i64 0,.int .i64 0,.int .i64 0,.int .i64 0,.str 0 0]) fun h_2=>
 callN (call 59 [strA t0] h_2) fun r8 h_5=>
 lett (newH h_5 123 [.int .i64 0,.int .i64 0,.int .i64 0,.int .i64 0]) fun h_8=>
 lett (fun (h_14:AHeap)=>
  obind (idxA 4 1 (newP h_5) 0) fun t19=>
  obind (ldCell h_14 t19) fun v20=>
  obind (avInt .i64 v20) fun t20=>
  obind (idxA 4 1 (newP h_5) 1) fun t21=>
  obind (ldCell h_14 t21) fun v22=>
  obind (avInt .i64 v22) fun t22=>
  obind (idxA 4 1 (newP h_5) 2) fun t23=>
  obind (ldCell h_14 t23) fun v24=>
  obind (avInt .i64 v24) fun t24=>
  obind (idxA 4 1 (newP h_5) 3) fun t26=>
  obind (ldCell h_14 t26) fun v27=>
  obind (avInt .i64 v27) fun t27=>
  callN (call 61 [r8,.int .i64 64] h_14) fun r29 h_28=>
  obind (avStr r29) fun t29=>
  chk (reLoad Try.prog h_28 3 t26 (.int .i64 t27)&&(reLoad Try.prog h_28 3 t23 (.int .i64 t24)&&(reLoad Try.prog h_28 3 t21 (.int .i64 t22)&&(reLoad Try.prog h_28 3 t19 (.int .i64 t20)&&true))))<|
  obind (bldS Try.prog 56 [(0,.int .i64 t20),(1,.agg ([.int .i64 t22,.int .i64 t24]:List AV)),(2,.int .i64 t27),(3,strA t29)]) fun t30=>
  obind (stRow h_28 5 t30 (newP h)) fun h_33=>
  callN (call 62 [r8] h_33) fun r32 h_37=>
  obind (avAgg r32) fun t32=>
  obind (partF 0 t32) fun v33=>
  obind (avInt .i64 v33) fun t33=>
  lett ((t33:Int) != 0) fun (t34:Bool)=>
  lett (fun (t39:Bool) (h_43:AHeap)=>
   ifB t39
   (
    obind (stRow h_43 5 ([.int .i64 0,.int .i64 0,.int .i64 0,.int .i64 0,.str 0 0]:List AV) (newP h)) fun h_47=>
    obind (ldRow h_47 5 (newP h)) fun w2=>
    some (.ret (.tup [.agg w2,.bool false]),h_47))
   (
    obind (ldRow h_43 5 (newP h)) fun t41=>
    obind (stRow h_43 5 t41 (newP h)) fun h_52=>
    obind (ldRow h_52 5 (newP h)) fun w2_55=>
    some (.ret (.tup [.agg w2_55,.bool true]),h_52))) fun j39=>
  ifB t34
  (
   j39 true h_37)
  (
   obind (ldRow h_37 5 (newP h)) fun t36=>
   callN (call 51 [.agg t36] h_37) fun r37 h_57=>
   obind (avInt .i64 r37) fun t37=>
   lett ((t37:Int) != 0) fun (t38:Bool)=>
   j39 t38 h_57)) fun k13=>
 journal_sendOf_L0 call r8 h_5 k13 n 0 h_8
set_option maxHeartbeats 4000000 in
set_option maxRecDepth 20000 in
theorem journal_sendOf_ok{call:CallF}(hc:SaysAll Try.prog call){n:Nat}{t0:Bytes}{h:AHeap}{rR:ARes}{hR:AHeap}(hF:journal_sendOf call n t0 h=some (rR,hR)):Says Try.prog 46 [strA t0] h rR hR:=by
 unfold journal_sendOf at hF;refine sO Try.func46 fun w0 m0=>wW [(0,strA t0)] (oG fun n1=>W.r (oN 2 hF fun h_2 hF=>oA 3 (.bool false) (oV [(0,strA t0),(2,(newP h))] (n1 (oG fun n4=>W.r (oA 7 (strA t0) (oC hc (some 8) hF fun r8 h_5 hF=>oA 4 r8 (oV [(2,(newP h)),(4,r8)] (n4 (oG fun n7=>W.r (oN 5 hF fun h_8 hF=>oV [(2,(newP h)),(4,r8),(5,(newP h_5))] (n7 (W.s (fun K10 n10 e10 q10 p10=>oG fun n11=>W.r (oA 9 (.int .i64 0) (oV [(2,(newP h)),(4,r8),(5,(newP h_5)),(9,.int .i64 0)] (n11 ?_)))))))))))))))));obtain⟨k13,e13,hF⟩:=lett_some hF
 have J13:∀(h_14:AHeap),k13 h_14=some (rR,hR)→Go w0 m0 (Func.ntmps Try.f46) (K10 .normal) [(2,(newP h)),(4,r8),(5,(newP h_5))] [] h_14:=by
  intro h_14 hF;rw[e13] at hF;refine n10 (oG fun n15=>y15 (by kernel_rfl) (hc.ok w0) (plan:=[0,1,2,3,4,5,6,7,8,9,10,11,12]) (by kernel_rfl) (by kernel_rfl) (by kernel_rfl) ?_);obtain⟨t19,e16,hF⟩:=obind_some hF;refine WD.b 0 (some 19) t19 h_14 (index_arr (P:=Try.prog) (h:=h_14) (t:=123) (e':=3) (k:=.i64) (by kernel_rfl) (by kernel_rfl) (by kernel_rfl) e16) ?_
  replace hF:=obind_some hF;obtain⟨v20,e17,hF⟩:=hF
  replace hF:=obind_some hF;obtain⟨t20,c18,hF⟩:=hF
  have c18:=avInt_some c18;subst c18;refine WD.b 1 (some 20) (.int .i64 t20) h_14 (load_cell (P:=Try.prog) (h:=h_14) (t:=3) (by kernel_rfl) e17) ?_;obtain⟨t21,e19,hF⟩:=obind_some hF;refine WD.b 0 (some 21) t21 h_14 (index_arr (P:=Try.prog) (h:=h_14) (t:=123) (e':=3) (k:=.i64) (by kernel_rfl) (by kernel_rfl) (by kernel_rfl) e19) ?_
  replace hF:=obind_some hF;obtain⟨v22,e20,hF⟩:=hF
  replace hF:=obind_some hF;obtain⟨t22,c21,hF⟩:=hF
  have c21:=avInt_some c21;subst c21;refine WD.b 1 (some 22) (.int .i64 t22) h_14 (load_cell (P:=Try.prog) (h:=h_14) (t:=3) (by kernel_rfl) e20) ?_;obtain⟨t23,e22,hF⟩:=obind_some hF;refine WD.b 0 (some 23) t23 h_14 (index_arr (P:=Try.prog) (h:=h_14) (t:=123) (e':=3) (k:=.i64) (by kernel_rfl) (by kernel_rfl) (by kernel_rfl) e22) ?_
  replace hF:=obind_some hF;obtain⟨v24,e23,hF⟩:=hF
  replace hF:=obind_some hF;obtain⟨t24,c24,hF⟩:=hF
  have c24:=avInt_some c24;subst c24;refine WD.b 1 (some 24) (.int .i64 t24) h_14 (load_cell (P:=Try.prog) (h:=h_14) (t:=3) (by kernel_rfl) e23) (WD.a 0 (some 25) (.agg ([.int .i64 t22,.int .i64 t24]:List AV)) h_14 ?_);obtain⟨t26,e25,hF⟩:=obind_some hF;refine WD.b 0 (some 26) t26 h_14 (index_arr (P:=Try.prog) (h:=h_14) (t:=123) (e':=3) (k:=.i64) (by kernel_rfl) (by kernel_rfl) (by kernel_rfl) e25) ?_
  replace hF:=obind_some hF;obtain⟨v27,e26,hF⟩:=hF
  replace hF:=obind_some hF;obtain⟨t27,c27,hF⟩:=hF
  have c27:=avInt_some c27;subst c27;refine WD.b 1 (some 27) (.int .i64 t27) h_14 (load_cell (P:=Try.prog) (h:=h_14) (t:=3) (by kernel_rfl) e26) (WD.a 0 (some 28) r8 h_14 ?_)
  replace hF:=callN_some hF;obtain⟨r29,h_28,e29,hF⟩:=hF
  replace hF:=obind_some hF;obtain⟨t29,c30,hF⟩:=hF
  have c30:=avStr_some c30;subst c30;obtain⟨k31,hF⟩:=chk_some hF;refine WD.call (d:=(some 29)) (by kernel_rfl) (by kernel_rfl) (by kernel_rfl) e29 (k:=2) (by kernel_rfl) (fun _=>(Eq.trans (by kernel_rfl) k31)) (by decide) ?_;obtain⟨t30,e32,hF⟩:=obind_some hF;refine WD.val (d:=(some 30)) (v:=.agg t30) (h':=h_28) (by kernel_rfl) (by kernel_rfl) (bld_ok (by kernel_rfl) e32) (k:=0) (by kernel_rfl) (fun e=>absurd e (by decide)) (by decide) ?_;obtain⟨h_33,e34,hF⟩:=obind_some hF;refine WD.eff (h':=h_33) (by kernel_rfl) (by kernel_rfl) (Eq.trans (by kernel_rfl) (store_row (P:=Try.prog) (h:=h_28) (t:=56) (v:=(.agg t30)) (by kernel_rfl) (by kernel_rfl) e34)) (k:=2) (by kernel_rfl) (fun _=>(by kernel_rfl)) (by decide) (WD.nil (gW [(2,(newP h)),(4,r8)] (n15 (oH fun n35 q35=>W.s (fun K36 n36 e36 q36 p36=>W.r (oA 31 r8 (oCa hc 32 hF fun t32 h_37 hF=>?_)))))))
  replace hF:=obind_some hF;obtain⟨v33,e40,hF⟩:=hF
  replace hF:=obind_some hF;obtain⟨t33,c41,hF⟩:=hF
  have c41:=avInt_some c41;subst c41;refine WL.b (some 33) (.int .i64 t33) h_37 (field_one (P:=Try.prog) (h:=h_37) (t:=128) (f:=0) (by kernel_rfl) e40) (oB 34 hF fun t34 hF=>oA 35 (.bool t34) ?_);obtain⟨j39,e44,hF⟩:=lett_some hF
  have J45:∀(t39:Bool) (h_43:AHeap),j39 t39 h_43=some (rR,hR)→WL Try.prog w0 m0 (Func.ntmps Try.f46) (Code.ops (y6 (y6 (y3 (y3 (y3 (y3 (y3 (codeOf Try.f46))))))))) 9 K36 [(2,(newP h)),(39,.bool t39)] [] h_43:=by
   intro t39 h_43 hF;rw[e44] at hF;refine oV [(2,(newP h)),(39,.bool t39)] (n36 ?_)
   cases t39 with
   |true=>
    refine oT hF fun hF=>oG fun n46=>W.r (oA 40 (.agg ([.int .i64 0,.int .i64 0,.int .i64 0,.int .i64 0,.str 0 0]:List AV)) (oW 56 (.agg ([.int .i64 0,.int .i64 0,.int .i64 0,.int .i64 0,.str 0 0]:List AV)) hF fun h_47 hF=>oA 3 (.bool false) (oV [(2,(newP h)),(3,.bool false)] (n46 (oY (q35 ?_))))));obtain⟨w2,e49,hF⟩:=obind_some hF;exact lZ hF [.cell 2 56,.tmp 3] [.agg w2,.bool false] (rY e49 (rT res_nil))
   |false=>
    refine oU hF fun hF=>oZ (n35 (oG fun n50=>W.r (oR 41 56 hF fun t41 hF=>oW 56 (.agg t41) hF fun h_52 hF=>oA 3 (.bool true) (oV [(2,(newP h)),(3,.bool true)] (n50 (oY ?_))))));obtain⟨w2_55,e54,hF⟩:=obind_some hF;exact lZ hF [.cell 2 56,.tmp 3] [.agg w2_55,.bool true] (rY e54 (rT res_nil))
  cases t34 with
  |true=>
   replace hF:=ifB_t hF
   exact WL.o (some 36) (WL.o (some 37) (WL.o (some 38) (oA 39 (.bool true) (lW _ (J45 _ _ hF)))))
  |false=>
   replace hF:=ifB_f hF
   exact oR 36 56 hF fun t36 hF=>oCi hc 37 hF fun t37 h_57 hF=>oB 38 hF fun t38 hF=>oA 39 (.bool t38) (lW _ (J45 _ _ hF))
 refine W.blockK (by kernel_rfl) (fun K12 n12 s12 o12 q12 p12=>W.loopK (by kernel_rfl) (fun I61 K61 b61 n61 e61 q61 p61=>?_))
 have L61:∀(m:Nat) (t9:Int) (h_62:AHeap),journal_sendOf_L0 call r8 h_5 k13 m t9 h_62=some (rR,hR)→Go w0 m0 (Func.ntmps Try.f46) I61 [(2,(newP h)),(4,r8),(5,(newP h_5)),(9,.int .i64 t9)] [] h_62:=by
  intro m
  induction m with
  |zero=>intro t9 h_62 hF;cases hF
  |succ m ih61=>
   intro t9 h_62 hF;rw[journal_sendOf_L0_s] at hF;unfold journal_sendOf_L0b at hF;refine b61 (oG fun n63=>W.r (oB 10 hF fun t10 hF=>oV [(2,(newP h)),(4,r8),(5,(newP h_5)),(9,.int .i64 t9),(10,.bool t10)] (n63 (W.s (fun K65 n65 e65 q65 p65=>?_)))))
   cases t10 with
   |true=>
    exact oT hF fun hF=>oZ (n65 (oG fun n66=>W.blockK (by kernel_rfl) (fun K67 n67 s67 o67 q67 p67=>oG fun n68=>W.r (oA 11 (.int .i64 t9) (oA 6 (.int .i64 t9) (oV [(2,(newP h)),(4,r8),(5,(newP h_5)),(6,.int .i64 t9),(9,.int .i64 t9)] (n68 (W.r (oA 12 (.int .i64 t9) (oA 13 r8 (oCi hc 14 hF fun t14 h_69 hF=>oI 15 .u64 hF fun t15 hF=>oI 16 .i64 hF fun t16 hF=>oQ 17 123 3 .i64 hF fun t17 hF=>oW 3 (.int .i64 t16) hF fun h_75 hF=>oV [(2,(newP h)),(4,r8),(5,(newP h_5)),(9,.int .i64 t9)] (n67 (n66 (W.r (oI 18 .i64 hF fun t18 hF=>oA 9 (.int .i64 t18) (oV [(2,(newP h)),(4,r8),(5,(newP h_5)),(9,.int .i64 t18)] (n61 (gW _ (ih61 _ _ hF)))))))))))))))))))
   |false=>
    exact oU hF fun hF=>W.exit (by kernel_rfl) (e65 (e61 (s12 (by kernel_rfl) (gW _ (J13 _ hF)))))
 exact gW _ (L61 _ _ _ hF)
noncomputable def message_Above(_:CallF)(_:Nat)(t0:List AV)(t1:List AV)(h:AHeap):R:=outK (opBox h 31 (some (.agg t0))) fun v2 h_2=>outK (opBox h_2 31 (some (.agg t1))) fun v3 h_4=>obind (fldP 0 v2) fun t5=>obind (ldCell h_4 t5) fun v6=>obind (avInt .i64 v6) fun t6=>obind (fldP 0 v3) fun t7=>obind (ldCell h_4 t7) fun v8=>obind (avInt .i64 v8) fun t8=>lett ((t6:Int) != t8) fun (t9:Bool)=>ifB t9 (obind (fldP 0 v2) fun t10=>obind (ldCell h_4 t10) fun v11=>obind (avInt .i64 v11) fun t11=>obind (fldP 0 v3) fun t12=>obind (ldCell h_4 t12) fun v13=>obind (avInt .i64 v13) fun t13=>lett (decide (t11>t13)) fun (t14:Bool)=>some (.ret (.bool t14),h_4)) (obind (fldP 1 v2) fun t15=>obind (ldCell h_4 t15) fun v16=>obind (avInt .i64 v16) fun t16=>obind (fldP 1 v3) fun t17=>obind (ldCell h_4 t17) fun v18=>obind (avInt .i64 v18) fun t18=>lett (decide (t16>t18)) fun (t19:Bool)=>some (.ret (.bool t19),h_4))
set_option maxHeartbeats 4000000 in
set_option maxRecDepth 20000 in
theorem message_Above_ok{call:CallF}(_:SaysAll Try.prog call){n:Nat}{t0:List AV}{t1:List AV}{h:AHeap}{rR:ARes}{hR:AHeap}(hF:message_Above call n t0 t1 h=some (rR,hR)):Says Try.prog 19 [.agg t0,.agg t1] h rR hR:=by
 unfold message_Above at hF;refine sO Try.func19 fun w0 m0=>wW [(0,.agg t0),(1,.agg t1)] (oG fun n1=>W.r (oK 2 hF fun v2 h_2 hF=>oK 3 hF fun v3 h_4 hF=>oA 4 (.bool false) (oV [(2,v2),(3,v3)] (n1 (oH fun n6 q6=>oG fun n7=>W.r (oF 5 31 0 hF fun t5 hF=>oLi 6 3 hF fun t6 hF=>oF 7 31 0 hF fun t7 hF=>oLi 8 3 hF fun t8 hF=>oB 9 hF fun t9 hF=>oV [(2,v2),(3,v3),(9,.bool t9)] (n7 ?_)))))))
 cases t9 with
 |true=>
  exact oT hF fun hF=>oG fun n15=>W.r (oF 10 31 0 hF fun t10 hF=>oLi 11 3 hF fun t11 hF=>oF 12 31 0 hF fun t12 hF=>oLi 13 3 hF fun t13 hF=>oB 14 hF fun t14 hF=>oA 4 (.bool t14) (oV [(4,.bool t14)] (n15 (oY (q6 (lZ hF [.tmp 4] [.bool t14] (rT res_nil)))))))
 |false=>
  exact oU hF fun hF=>oZ (n6 (oG fun n23=>W.r (oF 15 31 1 hF fun t15 hF=>oLi 16 3 hF fun t16 hF=>oF 17 31 1 hF fun t17 hF=>oLi 18 3 hF fun t18 hF=>oB 19 hF fun t19 hF=>oA 4 (.bool t19) (oV [(4,.bool t19)] (n23 (oY (lZ hF [.tmp 4] [.bool t19] (rT res_nil))))))))
end Go.Proofs.Ytfcedccphhmdgaa
