/- What matchCopies_proved stands on, part 6 of 10. -/
import Derived.Test.YtpdepoeanhibiaaDoorCc5
import Derived.Test.YtpdepoeanhibiaaDoorRows
import Derived.WalkKit
import Derived.ProofKit
import Derived.OpenShut
import Derived.SizedLaws
import Derived.SliceStrings
namespace Go.Proofs.YtpdepoeanhibiaaDoor
open Go.ChangeShapes Go.WideShapes Go.ChangeAt Go.RowKit
open Go.ChangeMaps (open_string shut_string)
theorem Tryd.own:ownKnob Tryd.prog.godebug=none:=by kernel_rfl
theorem y59:laidOutB Tryd.prog=true:=by kernel_rfl
section
variable {H:Type}{enc:TypeId×Value→H}
theorem stays{P:Program}(hP:laidOutB P=true){W W':World}(hb:Below W.heap.size W W')(ts:List TypeId):∀(vs:List Value) (ds:List (DataW H)) (ps:List MemPlace),
  DataW.TrodAll enc P W 0 (fun _=>true) true ts vs ds ps→(∀t∈ts,P.readableRec t=true∧t<P.types.size)→(∀x∈ps,x.block<W.heap.size)→
  DataW.TrodAll enc P W' 0 (fun b=>decide (b<W.heap.size)) true ts vs ds ps:=by
 induction ts with
 |nil=>
  intro vs ds ps h _ _;obtain⟨rfl,rfl,rfl⟩:=trodAll_nil h;exact trodAll_mk0
 |cons t ts ih=>
  intro vs ds ps h hr hlt;obtain⟨v,vs',d,ds',p,q,rfl,rfl,rfl,h1,h2⟩:=trodAll_cons h;obtain⟨hr1,hr2⟩:=hr t (List.mem_cons_self ..);exact trodAll_cons_mk (Below.trod hP hr1 hr2 h1 hb (fun x hx=>hlt x (List.mem_append_left _ hx))) (ih _ _ _ h2 (fun t ht=>hr t (List.mem_cons_of_mem _ ht)) (fun x hx=>hlt x (List.mem_append_right _ hx)))
theorem z3d8{P:Program}{ts:List TypeId}(h:(ts.all fun t=>P.readableRec t&&decide (t<P.types.size))=true):∀t∈ts,P.readableRec t=true∧t<P.types.size:=by
 intro t ht;have h1:=List.all_eq_true.1 h t ht;rw[Bool.and_eq_true] at h1;exact⟨h1.1,of_decide_eq_true h1.2⟩
end
open Go.RowKit Abs
set_option maxHeartbeats 4000000
set_option maxRecDepth 20000
noncomputable abbrev Pg:Program:=Tryd.prog
theorem oS{α:Type}{x:Option α}{k:α→R}{r:ARes×AHeap}(h:obind x k=some r):∃a,x=some a∧k a=some r:=z4 h
theorem lS{α:Type}{v:α}{k:α→R}{r:ARes×AHeap}(h:lett v k=some r):∃x,x=v∧k x=some r:=zc h
noncomputable def z59(_:zd)(_:Nat)(t0:AV)(x:AV)(h:AHeap):R:=outK (zc1 Pg h .neq 20 true (some x) (some AV.nifc)) fun v6 h_2=>obind (z23 v6) fun t6=>lett (fun (h_6:AHeap)=>some (.ret (.tup []),h_6)) fun k5=>ifB t6 (outK (z14e Pg h_2 106 true (some x)) fun v9 h_8=>obind (z12b 0 v9) fun v10=>obind (z75 v10) fun t10=>obind (z12b 1 v9) fun v11=>obind (z23 v11) fun t11=>lett (newH h_8 106 [.int .i64 0,.int .i64 0]) fun h_14=>obind (z17 h_14 2 t10 (z7 h_8)) fun h_16=>lett (!t11) fun (t13:Bool)=>lett (fun (h_22:AHeap)=>obind (z18 h_22 2 (AV.ptr (AHeap.next h_8) 0)) fun t16=>obind (z17 h_22 2 t16 t0) fun h_24=>k5 h_24) fun k21=>ifB t13 (none) (k21 h_16)) (k5 h_2)
theorem zf3{call:zd}(_:SaysAll Pg call){n:Nat}{t0:AV}{x:AV}{u:Option AV}(hu:u.getD .nifc=x){h:AHeap}{rR:ARes}{hR:AHeap}(z:z59 call n t0 x h=some (rR,hR)):DSays Pg 43 [t0] u h none hR:=by
 unfold z59 at z;subst hu;refine dsays_of (fn:=Tryd.f43) (u':=none) (h1:=h) (l:=[(1,(u.getD .nifc)),(4,(u.getD .nifc)),(0,t0)]) Tryd.func43 (c:=z4e Tryd.f43) (by kernel_rfl) (by kernel_rfl) (by kernel_rfl) (by kernel_rfl) (by kernel_rfl) (by kernel_rfl) (by kernel_rfl) (fun w0 m0=>?_);refine wW [(0,t0),(1,(u.getD .nifc))] ?_;refine oG fun n1=>W.r ?_;refine oA 5 (u.getD .nifc) ?_
 replace z:=z27 z;obtain⟨v6,h_2,e3,z⟩:=z
 replace z:=oS z;obtain⟨t6,c4,z⟩:=z
 have c4:=z34 c4;subst c4;refine WL.b (some 6) (.bool t6) h_2 e3 ?_;refine oV [(0,t0),(1,(u.getD .nifc)),(6,.bool t6)] (n1 ?_);obtain⟨k5,e5,z⟩:=lS z
 have J5:∀(h_6:AHeap),k5 h_6=some (rR,hR)→Go w0 m0 (Func.ntmps Tryd.f43) (DFin w0 m0 hR .normal) [] [] h_6:=by
  intro h_6 z;rw[e5] at z;obtain⟨z,hF2⟩:=z261 z;subst hF2;exact Go.dleave
 cases t6 with
 |true=>
  refine oT z fun z=>?_;refine oG fun n7=>W.r ?_;refine oA 8 (u.getD .nifc) ?_;refine oK 9 z fun v9 h_8 z=>?_;refine oA 7 v9 ?_;refine oEa 10 z fun t10 z=>?_;refine oEb 11 z fun t11 z=>?_;refine oN 2 z fun h_14 z=>?_;refine oW 106 (.agg t10) z fun h_16 z=>?_;refine oA 3 (.bool t11) ?_;refine oV [(0,t0),(1,(u.getD .nifc)),(2,z7 h_8),(3,.bool t11)] (n7 ?_);refine W.s (fun K18 n18 _ _ _=>?_);refine oG fun n19=>W.r ?_;refine oA 12 (.bool t11) ?_;refine oB 13 z fun t13 z=>?_;refine oV [(0,t0),(1,(u.getD .nifc)),(2,z7 h_8),(13,.bool t13)] (n19 ?_);obtain⟨k21,e21,z⟩:=lS z
  have J21:∀(h_22:AHeap),k21 h_22=some (rR,hR)→Go w0 m0 (Func.ntmps Tryd.f43) (K18 .normal) [(0,t0),(2,z7 h_8)] [] h_22:=by
   intro h_22 z;rw[e21] at z;refine n18 (W.r ?_);refine oA 15 (AV.ptr (AHeap.next h_8) 0) ?_;refine oR 16 81 z fun t16 z=>?_;refine oW 81 (.agg t16) z fun h_24 z=>?_;refine oV [] ?_;exact gW _ (J5 _ z)
  cases t13 with
  |true=>
   refine oT z fun z=>?_;refine W.r ?_;refine oA 14 (u.getD .nifc) ?_
   cases z
  |false=>
   refine oU z fun z=>?_;refine oZ ?_;exact gW _ (J21 _ z)
 |false=>
  refine oU z fun z=>?_;refine oZ ?_;exact gW _ (J5 _ z)
noncomputable def zbe(call:zd)(n:Nat)(t0:AV)(h:AHeap):R:=lett (newH h 81 [.int .i64 0,.int .i64 0]) fun h_2=>z2e1 (z47e Pg call t0 [] h_2) (fun pv h_14=>callN (z59 call n (z7 h) pv h_14) fun _ h_15=>obind (z18 h_15 2 (z7 h)) fun w2_18=>some (.ret (.agg w2_18),h_15)) fun _ h_6=>obind (z17 h_6 2 ([.int .i64 0,.int .i64 0]:List AV) (z7 h)) fun h_9=>callN (z59 call n (z7 h) .nifc h_9) fun _ h_11=>obind (z18 h_11 2 (z7 h)) fun w2=>some (.ret (.agg w2),h_11)
theorem z292{call:zd}(hc:SaysAll Pg call){n:Nat}{t0:AV}{h:AHeap}{rR:ARes}{hR:AHeap}(z:zbe call n t0 h=some (rR,hR)):Says Pg 35 [t0] h rR hR:=by
 unfold zbe at z;refine sO Tryd.func35 fun w0 m0=>?_;refine wW [(0,t0)] ?_;refine oG fun n1=>W.r ?_;refine oN 2 z fun h_2 z=>?_;refine oV [(0,t0),(2,z7 h)] (n1 ?_);refine oG fun n4=>W.r ?_;refine oA 3 (AV.fn 43 [] [(z7 h)]) ?_;refine WL.dfr (d:=none) (f:=43) (args:=[]) (cap:=[(z7 h)]) (h':=h_2) (by kernel_rfl) (by kernel_rfl) (by kernel_rfl) ?_;refine oV [(0,t0),(2,z7 h)] (n4 ?_);refine oJ fun n5 p5=>W.r ?_;refine oA 4 t0 ?_
 replace z:=z400 z;rcases z with⟨r5,h_6,e7,z⟩|⟨pv,h_14,e7,z⟩
 ·rcases z24b e7 with ⟨d19g, d19as, d19h, d191, d192⟩ | ⟨d19v, d19h, d191, d192⟩
  rotate_left
  ·cases d192
   refine WL.val (d:=(some 5)) (by kernel_rfl) (by kernel_rfl) (Eq.trans (by kernel_rfl) d191) ?_;refine oV [(2,z7 h)] (n5 ?_);refine W.s (fun K8 n8 e8 q8 p8=>?_);refine W.r ?_;refine oA 6 (.agg ([.int .i64 0,.int .i64 0]:List AV)) ?_;obtain⟨h_9,e10,z⟩:=oS z;refine WL.e h_9 (z3d (P:=Pg) (h:=h_6) (t:=81) (v:=(.agg ([.int .i64 0,.int .i64 0]:List AV))) (by kernel_rfl) (by kernel_rfl) e10) ?_;refine oV [(2,z7 h)] (n8 (oY ?_));obtain⟨_,h_11,e12,z⟩:=z40 z;obtain⟨w2,e13,z⟩:=oS z;obtain⟨z,hF2⟩:=z261 z;subst z;subst hF2;exact Go.leaveD (by kernel_rfl) (zf3 hc (u:=none) rfl e12) (z3f9 (rs:=[.cell 2 81]) (vs:=[.agg w2]) (by kernel_rfl) (z233 (by kernel_rfl) (zc6 (P:=Pg) (h:=h_11) (t:=81) (by kernel_rfl) (by kernel_rfl) e13) zf) (by kernel_rfl))
  ·refine WL.call (hc.ok w0) (d := (some 5)) (by kernel_rfl) (by kernel_rfl) (Eq.trans (by kernel_rfl) d191) d192 ?_
   refine oV [(2,z7 h)] (n5 ?_);refine W.s (fun K8 n8 e8 q8 p8=>?_);refine W.r ?_;refine oA 6 (.agg ([.int .i64 0,.int .i64 0]:List AV)) ?_;obtain⟨h_9,e10,z⟩:=oS z;refine WL.e h_9 (z3d (P:=Pg) (h:=h_6) (t:=81) (v:=(.agg ([.int .i64 0,.int .i64 0]:List AV))) (by kernel_rfl) (by kernel_rfl) e10) ?_;refine oV [(2,z7 h)] (n8 (oY ?_));obtain⟨_,h_11,e12,z⟩:=z40 z;obtain⟨w2,e13,z⟩:=oS z;obtain⟨z,hF2⟩:=z261 z;subst z;subst hF2;exact Go.leaveD (by kernel_rfl) (zf3 hc (u:=none) rfl e12) (z3f9 (rs:=[.cell 2 81]) (vs:=[.agg w2]) (by kernel_rfl) (z233 (by kernel_rfl) (zc6 (P:=Pg) (h:=h_11) (t:=81) (by kernel_rfl) (by kernel_rfl) e13) zf) (by kernel_rfl))
 ·obtain ⟨_, h_15, e16, z⟩ := z40 z
  obtain⟨w2_18,e17,z⟩:=oS z;obtain⟨z,hF2⟩:=z261 z;subst z;subst hF2
  rcases z24b e7 with⟨d19g,d19as,d19h,d191,d192⟩|⟨d19v,d19h,d191,d192⟩
  ·exact y3d (hc.ok w0) (d:=(some 5)) (by kernel_rfl) (by kernel_rfl) (Eq.trans (by kernel_rfl) d191) d192 (p5 (Pan.leaveD (by kernel_rfl) (zf3 hc (u:=(some pv)) rfl e16) (z3f9 (rs:=[.cell 2 81]) (vs:=[.agg w2_18]) (by kernel_rfl) (z233 (by kernel_rfl) (zc6 (P:=Pg) (h:=h_15) (t:=81) (by kernel_rfl) (by kernel_rfl) e17) zf) (by kernel_rfl))))
  ·cases d192
noncomputable def z54(call:zd)(_:Nat)(t0:AV)(t1:Int)(h:AHeap):R:=callN (call 56 [t0,.int .u8 t1] h) fun r6 h_2=>obind (z23 r6) fun t6=>lett (!t6) fun (t7:Bool)=>lett (fun (h_7:AHeap)=>some (.ret (.tup []),h_7)) fun k6=>ifB t7 (obind (z74 t0) fun t9=>obind (z4d 1 t9) fun t10=>obind (z9 h_2 t10) fun v11=>obind (avInt .i64 v11) fun t11=>callK (call 57 [.int .i64 6,.int .i64 t11] h_2) fun _ h_12=>k6 h_12) (k6 h_2)
theorem z1be{call:zd}(hc:SaysAll Pg call){n:Nat}{t0:AV}{t1:Int}{h:AHeap}{rR:ARes}{hR:AHeap}(z:z54 call n t0 t1 h=some (rR,hR)):Says Pg 62 [t0,.int .u8 t1] h rR hR:=by
 unfold z54 at z;refine sO Tryd.func62 fun w0 m0=>?_;refine wW [(0,t0),(1,.int .u8 t1)] ?_;refine oG fun n1=>W.r ?_;refine oA 4 t0 ?_;refine oA 5 (.int .u8 t1) ?_;refine oCb hc 6 z fun t6 h_2 z=>?_;refine oB 7 z fun t7 z=>?_;refine oV [(0,t0),(7,.bool t7)] (n1 ?_);obtain⟨k6,e6,z⟩:=lS z
 have J6:∀(h_7:AHeap),k6 h_7=some (rR,hR)→Go w0 m0 (Func.ntmps Tryd.f62) (Fin Pg Tryd.f62 w0 m0 rR hR .normal) [] [] h_7:=by
  intro h_7 z;rw[e6] at z;exact lY z [] [] zf
 cases t7 with
 |true=>
  refine oT z fun z=>?_;refine W.r ?_;refine oA 8 t0 ?_;refine oC0 9 z fun t9 z=>?_;refine oF 10 97 1 z fun t10 z=>?_;refine oLi 11 3 z fun t11 z=>?_;refine oCK hc (some 12) z (fun q=>Pf q) fun r12 h_12 z=>?_;refine oV [] ?_;exact gW _ (J6 _ z)
 |false=>
  refine oU z fun z=>?_;refine oZ ?_;exact gW _ (J6 _ z)
noncomputable def z66(call:zd)(_:Nat)(t0:AV)(t1:Int)(h:AHeap):R:=callN (call 59 [t0,.int .u8 t1] h) fun r7 h_4=>obind (z23 r7) fun t7=>lett (!t7) fun (t8:Bool)=>ifB t8 (some (.ret (.bool false),h_4)) (obind (z74 t0) fun t10=>obind (z4d 1 t10) fun t11=>obind (z9 h_4 t11) fun v12=>obind (avInt .i64 v12) fun t12=>lett (IntKind.i64.wrap (t12+1)) fun (t13:Int)=>obind (z74 t0) fun t14=>obind (z4d 1 t14) fun t15=>obind (z17 h_4 1 [.int .i64 t13] t15) fun h_17=>some (.ret (.bool true),h_17))
theorem z19a{call:zd}(hc:SaysAll Pg call){n:Nat}{t0:AV}{t1:Int}{h:AHeap}{rR:ARes}{hR:AHeap}(z:z66 call n t0 t1 h=some (rR,hR)):Says Pg 56 [t0,.int .u8 t1] h rR hR:=by
 unfold z66 at z;refine sO Tryd.func56 fun w0 m0=>?_;refine wW [(0,t0),(1,.int .u8 t1)] ?_;refine oG fun n1=>W.r ?_;refine oA 4 (.bool false) ?_;refine oV [(0,t0),(1,.int .u8 t1)] (n1 ?_);refine oH fun n2 q2=>?_;refine oG fun n3=>W.r ?_;refine oA 5 t0 ?_;refine oA 6 (.int .u8 t1) ?_;refine oCb hc 7 z fun t7 h_4 z=>?_;refine oB 8 z fun t8 z=>?_;refine oV [(0,t0),(8,.bool t8)] (n3 ?_)
 cases t8 with
 |true=>
  refine oT z fun z=>?_;refine oG fun n8=>W.r ?_;refine oA 4 (.bool false) ?_;refine oV [(4,.bool false)] (n8 (oY (q2 ?_)));exact lZ z [.tmp 4] [.bool false] (rT zf)
 |false=>
  refine oU z fun z=>?_;refine oZ (n2 ?_);refine oG fun n9=>W.r ?_;refine oA 9 t0 ?_;refine oC0 10 z fun t10 z=>?_;refine oF 11 97 1 z fun t11 z=>?_;refine oLi 12 3 z fun t12 z=>?_;refine oI 13 .i64 z fun t13 z=>?_;refine oC0 14 z fun t14 z=>?_;refine oF 15 97 1 z fun t15 z=>?_;refine oW 3 (.int .i64 t13) z fun h_17 z=>?_;refine oV [] (n9 ?_);refine oG fun n19=>W.r ?_;refine oA 4 (.bool true) ?_;refine oV [(4,.bool true)] (n19 (oY ?_));exact lZ z [.tmp 4] [.bool true] (rT zf)
noncomputable def z72(call:zd)(_:Nat)(t0:AV)(t1:Int)(h:AHeap):R:=lett (fun (t4:Bool) (h_4:AHeap)=>some (.ret (.bool t4),h_4)) fun k3=>callN (call 49 [t0] h) fun r6 h_5=>obind (z23 r6) fun t6=>lett (!t6) fun (t7:Bool)=>ifB t7 (obind (z74 t0) fun t10=>obind (z4d 0 t10) fun t11=>obind (z9 h_5 t11) fun v12=>obind (z16f v12) fun t12=>obind (z74 t0) fun t14=>obind (z4d 1 t14) fun t15=>obind (z9 h_5 t15) fun v16=>obind (avInt .i64 v16) fun t16=>obind (idxS t12 t16) fun t17=>lett ((t17:Int) == t1) fun (t19:Bool)=>k3 t19 h_5) (k3 false h_5)
theorem z1bf{call:zd}(hc:SaysAll Pg call){n:Nat}{t0:AV}{t1:Int}{h:AHeap}{rR:ARes}{hR:AHeap}(z:z72 call n t0 t1 h=some (rR,hR)):Says Pg 59 [t0,.int .u8 t1] h rR hR:=by
 unfold z72 at z;refine sO Tryd.func59 fun w0 m0=>?_;refine wW [(0,t0),(1,.int .u8 t1)] ?_;refine oG fun n1=>W.r ?_;refine oA 4 (.bool false) ?_;refine oV [(0,t0),(1,.int .u8 t1)] (n1 ?_);refine W.s (fun K2 n2 _ _ _=>?_);obtain⟨k3,e3,z⟩:=lS z
 have J3:∀(t4:Bool) (h_4:AHeap),k3 t4 h_4=some (rR,hR)→Go w0 m0 (Func.ntmps Tryd.f59) (K2 .normal) [(4,.bool t4)] [] h_4:=by
  intro t4 h_4 z;rw[e3] at z;refine n2 (oY ?_);exact lZ z [.tmp 4] [.bool t4] (rT zf)
 refine y1e (by kernel_rfl) (hc.ok w0) (plan:=[0,1,2,3,4,5,6,7,8,9,10,11,12,13,14,15,16]) (by kernel_rfl) (by kernel_rfl) (by kernel_rfl) ?_;refine WD.a 0 (some 5) t0 h ?_
 replace z:=z40 z;obtain⟨r6,h_5,e6,z⟩:=z
 replace z:=oS z;obtain⟨t6,c7,z⟩:=z
 have c7:=z34 c7;subst c7;refine WD.call (d:=(some 6)) (by kernel_rfl) (by kernel_rfl) (by kernel_rfl) e6 (k:=2) (by kernel_rfl) (fun _=>(by kernel_rfl)) (by decide) ?_;obtain⟨t7,e8,z⟩:=lS z;refine WD.val (d:=(some 7)) (v:=.bool t7) (h':=h_5) (by kernel_rfl) (by kernel_rfl) (z107 AV.bool e8 (by kernel_rfl)) (k:=0) (by kernel_rfl) (fun e=>absurd e (by decide)) (by decide) ?_;refine WD.a 0 (some 8) (.bool t7) h_5 ?_
 cases t7 with
 |true=>
  replace z:=zae z
  refine WD.a 0 (some 9) t0 h_5 ?_;obtain⟨t10,e9,z⟩:=oS z;refine WD.b 0 (some 10) t10 h_5 (z2c (h:=h_5) e9) ?_;obtain⟨t11,e10,z⟩:=oS z;refine WD.b 0 (some 11) t11 h_5 (z1b (P:=Pg) (h:=h_5) (s:=97) (f:=0) (by kernel_rfl) e10) ?_
  replace z:=oS z;obtain⟨v12,e11,z⟩:=z
  replace z:=oS z;obtain⟨t12,c12,z⟩:=z
  have c12:=z112 c12;subst c12;refine WD.b 1 (some 12) (z19 t12) h_5 (z15 (P:=Pg) (h:=h_5) (t:=9) (by kernel_rfl) e11) ?_;refine WD.a 0 (some 13) t0 h_5 ?_;obtain⟨t14,e13,z⟩:=oS z;refine WD.b 0 (some 14) t14 h_5 (z2c (h:=h_5) e13) ?_;obtain⟨t15,e14,z⟩:=oS z;refine WD.b 0 (some 15) t15 h_5 (z1b (P:=Pg) (h:=h_5) (s:=97) (f:=1) (by kernel_rfl) e14) ?_
  replace z:=oS z;obtain⟨v16,e15,z⟩:=z
  replace z:=oS z;obtain⟨t16,c16,z⟩:=z
  have c16:=z1a c16;subst c16;refine WD.b 1 (some 16) (.int .i64 t16) h_5 (z15 (P:=Pg) (h:=h_5) (t:=3) (by kernel_rfl) e15) ?_;obtain⟨t17,e17,z⟩:=oS z;refine WD.b 0 (some 17) (.int .u8 t17) h_5 (z246 (P:=Pg) (h:=h_5) (t:=9) (k:=.i64) (by kernel_rfl) e17) ?_;refine WD.a 0 (some 18) (.int .u8 t1) h_5 ?_;obtain⟨t19,e18,z⟩:=lS z;refine WD.val (d:=(some 19)) (v:=.bool t19) (h':=h_5) (by kernel_rfl) (by kernel_rfl) (z107 AV.bool e18 (by kernel_rfl)) (k:=0) (by kernel_rfl) (fun e=>absurd e (by decide)) (by decide) ?_;refine WD.a 0 (some 20) (.bool t19) h_5 ?_;refine WD.a 0 (some 4) (.bool t19) h_5 ?_;refine WD.nil ?_;exact gW _ (J3 _ _ z)
 |false=>
  replace z:=zaf z
  refine oD 0 (some 9) ?_;refine oD 0 (some 10) ?_;refine oD 0 (some 11) ?_;refine oD 1 (some 12) ?_;refine oD 0 (some 13) ?_;refine oD 0 (some 14) ?_;refine oD 0 (some 15) ?_;refine oD 1 (some 16) ?_;refine oD 0 (some 17) ?_;refine oD 0 (some 18) ?_;refine oD 0 (some 19) ?_;refine WD.a 0 (some 20) (.bool false) h_5 ?_;refine WD.a 0 (some 4) (.bool false) h_5 ?_;refine WD.nil ?_;exact gW _ (J3 _ _ z)
noncomputable def z67(_:zd)(_:Nat)(t0:AV)(h:AHeap):R:=obind (z74 t0) fun t4=>obind (z4d 1 t4) fun t5=>obind (z9 h t5) fun v6=>obind (avInt .i64 v6) fun t6=>obind (z74 t0) fun t8=>obind (z4d 0 t8) fun t9=>obind (z9 h t9) fun v10=>obind (z16f v10) fun t10=>lett ((t6:Int) == (z15b t10)) fun (t12:Bool)=>some (.ret (.bool t12),h)
theorem z19b{call:zd}(hc:SaysAll Pg call){n:Nat}{t0:AV}{h:AHeap}{rR:ARes}{hR:AHeap}(z:z67 call n t0 h=some (rR,hR)):Says Pg 49 [t0] h rR hR:=by
 unfold z67 at z;refine sO Tryd.func49 fun w0 m0=>?_;refine wW [(0,t0)] ?_;refine oG fun n1=>W.r ?_;refine oA 2 (.bool false) ?_;refine oV [(0,t0)] (n1 ?_);refine oG fun n2=>?_;refine y1e (by kernel_rfl) (hc.ok w0) (plan:=[0,1,2,3,4,5,6,7,8,9,10]) (by kernel_rfl) (by kernel_rfl) (by kernel_rfl) ?_;refine WD.a 0 (some 3) t0 h ?_;obtain⟨t4,e3,z⟩:=oS z;refine WD.b 0 (some 4) t4 h (z2c (h:=h) e3) ?_;obtain⟨t5,e4,z⟩:=oS z;refine WD.b 0 (some 5) t5 h (z1b (P:=Pg) (h:=h) (s:=97) (f:=1) (by kernel_rfl) e4) ?_
 replace z:=oS z;obtain⟨v6,e5,z⟩:=z
 replace z:=oS z;obtain⟨t6,c6,z⟩:=z
 have c6:=z1a c6;subst c6;refine WD.b 1 (some 6) (.int .i64 t6) h (z15 (P:=Pg) (h:=h) (t:=3) (by kernel_rfl) e5) ?_;refine WD.a 0 (some 7) t0 h ?_;obtain⟨t8,e7,z⟩:=oS z;refine WD.b 0 (some 8) t8 h (z2c (h:=h) e7) ?_;obtain⟨t9,e8,z⟩:=oS z;refine WD.b 0 (some 9) t9 h (z1b (P:=Pg) (h:=h) (s:=97) (f:=0) (by kernel_rfl) e8) ?_
 replace z:=oS z;obtain⟨v10,e9,z⟩:=z
 replace z:=oS z;obtain⟨t10,c10,z⟩:=z
 have c10:=z112 c10;subst c10;refine WD.b 1 (some 10) (z19 t10) h (z15 (P:=Pg) (h:=h) (t:=9) (by kernel_rfl) e9) ?_;refine WD.a 0 (some 11) (.int .i64 (z15b t10)) h ?_;obtain⟨t12,e11,z⟩:=lS z;refine WD.val (d:=(some 12)) (v:=.bool t12) (h':=h) (by kernel_rfl) (by kernel_rfl) (z107 AV.bool e11 (by kernel_rfl)) (k:=0) (by kernel_rfl) (fun e=>absurd e (by decide)) (by decide) ?_;refine WD.a 0 (some 2) (.bool t12) h ?_;refine WD.nil ?_;refine gW [(2,.bool t12)] (n2 (oY ?_));exact lZ z [.tmp 2] [.bool t12] (rT zf)
noncomputable def z60(call:zd)(_:Nat)(t0:AV)(h:AHeap):R:=callN (call 49 [t0] h) fun r3 h_2=>obind (z23 r3) fun t3=>lett (!t3) fun (t4:Bool)=>lett (fun (h_7:AHeap)=>some (.ret (.tup []),h_7)) fun k6=>ifB t4 (obind (z74 t0) fun t6=>obind (z4d 1 t6) fun t7=>obind (z9 h_2 t7) fun v8=>obind (avInt .i64 v8) fun t8=>callK (call 57 [.int .i64 6,.int .i64 t8] h_2) fun _ h_12=>k6 h_12) (k6 h_2)
theorem z1cc{call:zd}(hc:SaysAll Pg call){n:Nat}{t0:AV}{h:AHeap}{rR:ARes}{hR:AHeap}(z:z60 call n t0 h=some (rR,hR)):Says Pg 47 [t0] h rR hR:=by
 unfold z60 at z;refine sO Tryd.func47 fun w0 m0=>?_;refine wW [(0,t0)] ?_;refine oG fun n1=>W.r ?_;refine oA 2 t0 ?_;refine oCb hc 3 z fun t3 h_2 z=>?_;refine oB 4 z fun t4 z=>?_;refine oV [(0,t0),(4,.bool t4)] (n1 ?_);obtain⟨k6,e6,z⟩:=lS z
 have J6:∀(h_7:AHeap),k6 h_7=some (rR,hR)→Go w0 m0 (Func.ntmps Tryd.f47) (Fin Pg Tryd.f47 w0 m0 rR hR .normal) [] [] h_7:=by
  intro h_7 z;rw[e6] at z;exact lY z [] [] zf
 cases t4 with
 |true=>
  refine oT z fun z=>?_;refine W.r ?_;refine oA 5 t0 ?_;refine oC0 6 z fun t6 z=>?_;refine oF 7 97 1 z fun t7 z=>?_;refine oLi 8 3 z fun t8 z=>?_;refine oCK hc (some 9) z (fun q=>Pf q) fun r9 h_12 z=>?_;refine oV [] ?_;exact gW _ (J6 _ z)
 |false=>
  refine oU z fun z=>?_;refine oZ ?_;exact gW _ (J6 _ z)
noncomputable def z55(call:zd)(_:Nat)(t0:AV)(h:AHeap):R:=callN (call 49 [t0] h) fun r4 h_4=>obind (z23 r4) fun t4=>lett (fun (h_8:AHeap)=>obind (z74 t0) fun t11=>obind (z4d 1 t11) fun t12=>obind (z9 h_8 t12) fun v13=>obind (avInt .i64 v13) fun t13=>lett (IntKind.i64.wrap (t13+1)) fun (t14:Int)=>obind (z74 t0) fun t15=>obind (z4d 1 t15) fun t16=>obind (z17 h_8 1 [.int .i64 t14] t16) fun h_17=>obind (z74 t0) fun t18=>obind (z4d 0 t18) fun t19=>obind (z9 h_17 t19) fun v20=>obind (z16f v20) fun t20=>obind (z74 t0) fun t22=>obind (z4d 1 t22) fun t23=>obind (z9 h_17 t23) fun v24=>obind (avInt .i64 v24) fun t24=>lett (IntKind.i64.wrap (t24 - 1)) fun (t25:Int)=>obind (idxS t20 t25) fun t26=>some (.ret (.int .u8 t26),h_17)) fun k7=>ifB t4 (obind (z74 t0) fun t6=>obind (z4d 1 t6) fun t7=>obind (z9 h_4 t7) fun v8=>obind (avInt .i64 v8) fun t8=>callK (call 57 [.int .i64 6,.int .i64 t8] h_4) fun _ h_34=>k7 h_34) (k7 h_4)
theorem z1c0{call:zd}(hc:SaysAll Pg call){n:Nat}{t0:AV}{h:AHeap}{rR:ARes}{hR:AHeap}(z:z55 call n t0 h=some (rR,hR)):Says Pg 51 [t0] h rR hR:=by
 unfold z55 at z;refine sO Tryd.func51 fun w0 m0=>?_;refine wW [(0,t0)] ?_;refine oG fun n1=>W.r ?_;refine oA 2 (.int .u8 0) ?_;refine oV [(0,t0)] (n1 ?_);refine W.s (fun K2 n2 _ _ p2=>?_);refine oG fun n3=>W.r ?_;refine oA 3 t0 ?_;refine oCb hc 4 z fun t4 h_4 z=>?_;refine oV [(0,t0),(4,.bool t4)] (n3 ?_);obtain⟨k7,e7,z⟩:=lS z
 have J7:∀(h_8:AHeap),k7 h_8=some (rR,hR)→Go w0 m0 (Func.ntmps Tryd.f51) (K2 .normal) [(0,t0)] [] h_8:=by
  intro h_8 z;rw[e7] at z;refine n2 ?_;refine oG fun n9=>W.r ?_;refine oA 10 t0 ?_;refine oC0 11 z fun t11 z=>?_;refine oF 12 97 1 z fun t12 z=>?_;refine oLi 13 3 z fun t13 z=>?_;refine oI 14 .i64 z fun t14 z=>?_;refine oC0 15 z fun t15 z=>?_;refine oF 16 97 1 z fun t16 z=>?_;refine oW 3 (.int .i64 t14) z fun h_17 z=>?_;refine oV [(0,t0)] (n9 ?_);refine oG fun n19=>?_;refine y1e (by kernel_rfl) (hc.ok w0) (plan:=[0,1,2,3,4,5,6,7,8,9,10]) (by kernel_rfl) (by kernel_rfl) (by kernel_rfl) ?_;refine WD.a 0 (some 17) t0 h_17 ?_;obtain⟨t18,e20,z⟩:=oS z;refine WD.b 0 (some 18) t18 h_17 (z2c (h:=h_17) e20) ?_;obtain⟨t19,e21,z⟩:=oS z;refine WD.b 0 (some 19) t19 h_17 (z1b (P:=Pg) (h:=h_17) (s:=97) (f:=0) (by kernel_rfl) e21) ?_
  replace z:=oS z;obtain⟨v20,e22,z⟩:=z
  replace z:=oS z;obtain⟨t20,c23,z⟩:=z
  have c23:=z112 c23;subst c23;refine WD.b 1 (some 20) (z19 t20) h_17 (z15 (P:=Pg) (h:=h_17) (t:=9) (by kernel_rfl) e22) ?_;refine WD.a 0 (some 21) t0 h_17 ?_;obtain⟨t22,e24,z⟩:=oS z;refine WD.b 0 (some 22) t22 h_17 (z2c (h:=h_17) e24) ?_;obtain⟨t23,e25,z⟩:=oS z;refine WD.b 0 (some 23) t23 h_17 (z1b (P:=Pg) (h:=h_17) (s:=97) (f:=1) (by kernel_rfl) e25) ?_
  replace z:=oS z;obtain⟨v24,e26,z⟩:=z
  replace z:=oS z;obtain⟨t24,c27,z⟩:=z
  have c27:=z1a c27;subst c27;refine WD.b 1 (some 24) (.int .i64 t24) h_17 (z15 (P:=Pg) (h:=h_17) (t:=3) (by kernel_rfl) e26) ?_;obtain⟨t25,e28,z⟩:=lS z;refine WD.val (d:=(some 25)) (v:=.int .i64 t25) (h':=h_17) (by kernel_rfl) (by kernel_rfl) (z107 (AV.int .i64) e28 (by kernel_rfl)) (k:=0) (by kernel_rfl) (fun e=>absurd e (by decide)) (by decide) ?_;obtain⟨t26,e29,z⟩:=oS z;refine WD.b 0 (some 26) (.int .u8 t26) h_17 (z246 (P:=Pg) (h:=h_17) (t:=9) (k:=.i64) (by kernel_rfl) e29) ?_;refine WD.a 0 (some 2) (.int .u8 t26) h_17 ?_;refine WD.nil ?_;refine gW [(2,.int .u8 t26)] (n19 (oY ?_));exact lZ z [.tmp 2] [.int .u8 t26] (rT zf)
 cases t4 with
 |true=>
  refine oT z fun z=>?_;refine W.r ?_;refine oA 5 t0 ?_;refine oC0 6 z fun t6 z=>?_;refine oF 7 97 1 z fun t7 z=>?_;refine oLi 8 3 z fun t8 z=>?_;refine oCK hc (some 9) z (fun q=>p2 (Pf q)) fun r9 h_34 z=>?_;refine oV [(0,t0)] ?_;exact gW _ (J7 _ z)
 |false=>
  refine oU z fun z=>?_;refine oZ ?_;exact gW _ (J7 _ z)
noncomputable def z3a(call:zd)(_:Nat)(t0:AV)(h:AHeap):R:=obind (z74 t0) fun t3=>obind (z4d 1 t3) fun t4=>obind (z9 h t4) fun v5=>obind (avInt .i64 v5) fun t5=>lett (IntKind.i64.wrap (t5 - 1)) fun (t6:Int)=>callK (call 57 [.int .i64 6,.int .i64 t6] h) fun _ h_6=>some (.ret (.tup []),h_6)
theorem z14c{call:zd}(hc:SaysAll Pg call){n:Nat}{t0:AV}{h:AHeap}{rR:ARes}{hR:AHeap}(z:z3a call n t0 h=some (rR,hR)):Says Pg 64 [t0] h rR hR:=by
 unfold z3a at z;refine sO Tryd.func64 fun w0 m0=>?_;refine wW [(0,t0)] ?_;refine W.r ?_;refine oA 2 t0 ?_;refine oC0 3 z fun t3 z=>?_;refine oF 4 97 1 z fun t4 z=>?_;refine oLi 5 3 z fun t5 z=>?_;refine oI 6 .i64 z fun t6 z=>?_;refine oCK hc (some 7) z (fun q=>Pf q) fun r7 h_6 z=>?_;refine oV [] ?_;exact lY z [] [] zf
noncomputable def zce(_:zd)(_:Nat)(t0:Int)(t1:Int)(h:AHeap):R:=obind (z252 Pg 106 [(0,.agg ([.int .i64 t0,.int .i64 t1]:List AV))]) fun t7=>panK (AV.ifc 106 (.agg t7)) h
theorem z264{call:zd}(_:SaysAll Pg call){n:Nat}{t0:Int}{t1:Int}{h:AHeap}{rR:ARes}{hR:AHeap}(z:zce call n t0 t1 h=some (rR,hR)):Says Pg 57 [.int .i64 t0,.int .i64 t1] h rR hR:=by
 unfold zce at z;refine sO Tryd.func57 fun w0 m0=>?_;refine wW [(0,.int .i64 t0),(1,.int .i64 t1)] ?_;refine W.r ?_;refine oA 4 (.int .i64 t0) ?_;refine oA 5 (.int .i64 t1) ?_;refine oA 6 (.agg ([.int .i64 t0,.int .i64 t1]:List AV)) ?_;obtain⟨t7,e1,z⟩:=oS z;refine WL.val (d:=(some 7)) (v:=.agg t7) (h':=h) (by kernel_rfl) (by kernel_rfl) (z1b7 (by kernel_rfl) e1) ?_;refine oA 8 (AV.ifc 106 (.agg t7)) ?_
 replace z:=z49c z;obtain⟨a3t,a3v,e2,e22⟩:=z
 cases e22
 exact WL.pan (d:=none) (by kernel_rfl) (by kernel_rfl) (Eq.trans (by kernel_rfl) (congrArg (fun x=>z3dc _ (some x)) e2)) y5a
set_option maxHeartbeats 4000000
set_option maxRecDepth 20000
noncomputable def z14(call:zd)(_:Nat)(t0:List AV)(h:AHeap):R:=
 outK (z116 h 41 (some (.agg t0))) fun v1 h_2=>
 lett (newH h_2 79 [.int .i64 0,.int .u64 0,.int .u64 0,.int .u64 0,.int .u64 0,.nsl]) fun h_4=>
 lett (newH h_4 81 [.int .i64 0,.int .i64 0]) fun h_6=>
 obind (z4d 0 v1) fun t5=>
 obind (z9 h_6 t5) fun v6=>
 obind (avInt .i64 v6) fun t6=>
 lett ((t6:Int) != 1) fun (t7:Bool)=>
 lett (fun (t12:Bool) (h_14:AHeap)=>
  lett (fun (t17:Bool) (h_17:AHeap)=>
   ifB t17
   (
    obind (z17 h_17 6 ([.int .i64 0,.int .u64 0,.int .u64 0,.int .u64 0,.int .u64 0,.nsl]:List AV) (z7 h_2)) fun h_21=>
    obind (z17 h_21 2 ([.int .i64 2,.int .i64 0]:List AV) (z7 h_4)) fun h_23=>
    obind (z18 h_23 6 (z7 h_2)) fun w2=>
    obind (z18 h_23 2 (z7 h_4)) fun w3=>
    some (.ret (.tup [.agg w2,.agg w3]),h_23))
   (
    obind (z4d 1 v1) fun t20=>
    obind (z9 h_17 t20) fun v21=>
    obind (z16f v21) fun t21=>
    lett (decide ((z15b t21)>64)) fun (t23:Bool)=>
    ifB t23
    (
     obind (z17 h_17 6 ([.int .i64 0,.int .u64 0,.int .u64 0,.int .u64 0,.int .u64 0,.nsl]:List AV) (z7 h_2)) fun h_34=>
     obind (z17 h_34 2 ([.int .i64 3,.int .i64 64]:List AV) (z7 h_4)) fun h_36=>
     obind (z18 h_36 6 (z7 h_2)) fun w2_39=>
     obind (z18 h_36 2 (z7 h_4)) fun w3_41=>
     some (.ret (.tup [.agg w2_39,.agg w3_41]),h_36))
    (
     obind (z4d 1 v1) fun t26=>
     obind (z9 h_17 t26) fun v27=>
     obind (z16f v27) fun t27=>
     outK (z116 h_17 97 (some (.agg ([z19 t27,.int .i64 0]:List AV)))) fun v29 h_46=>
     lett (newH h_46 95 [.nilp]) fun h_48=>
     obind (z17 h_48 1 (AV.cells v29) (z7 h_46)) fun h_50=>
     callN (call 35 [(AV.fn 36 [] [(z7 h_46),v1,(z7 h_2)])] h_50) fun r31 h_53=>
     obind (z75 r31) fun t31=>
     obind (z17 h_53 2 t31 (z7 h_4)) fun h_56=>
     obind (z9 h_56 (AV.ptr (AHeap.next h_4) 0)) fun v33=>
     obind (avInt .i64 v33) fun t33=>
     lett ((t33:Int) != 0) fun (t34:Bool)=>
     ifB t34
     (
      obind (z18 h_56 2 (z7 h_4)) fun t36=>
      obind (z17 h_56 6 ([.int .i64 0,.int .u64 0,.int .u64 0,.int .u64 0,.int .u64 0,.nsl]:List AV) (z7 h_2)) fun h_65=>
      chk (zf2 Pg h_65 81 (z7 h_4) (.agg t36)&&true)<|
      obind (z17 h_65 2 t36 (z7 h_4)) fun h_68=>
      obind (z18 h_68 6 (z7 h_2)) fun w2_71=>
      obind (z18 h_68 2 (z7 h_4)) fun w3_73=>
      some (.ret (.tup [.agg w2_71,.agg w3_73]),h_68))
     (
      obind (z18 h_56 6 (z7 h_2)) fun t37=>
      obind (z18 h_56 2 (z7 h_4)) fun t38=>
      obind (z17 h_56 6 t37 (z7 h_2)) fun h_77=>
      chk (zf2 Pg h_77 81 (z7 h_4) (.agg t38)&&(true&&true))<|
      obind (z17 h_77 2 t38 (z7 h_4)) fun h_80=>
      obind (z18 h_80 6 (z7 h_2)) fun w2_83=>
      obind (z18 h_80 2 (z7 h_4)) fun w3_85=>
      some (.ret (.tup [.agg w2_83,.agg w3_85]),h_80))))) fun j17=>
  ifB t12
  (
   obind (z4d 0 v1) fun t14=>
   obind (z9 h_14 t14) fun v15=>
   obind (avInt .i64 v15) fun t15=>
   lett ((t15:Int) != 3) fun (t16:Bool)=>
   j17 t16 h_14)
  (
   j17 false h_14)) fun j12=>
 ifB t7
 (
  obind (z4d 0 v1) fun t9=>
  obind (z9 h_6 t9) fun v10=>
  obind (avInt .i64 v10) fun t10=>
  lett ((t10:Int) != 2) fun (t11:Bool)=>
  j12 t11 h_6)
 (
  j12 false h_6)
theorem z2ba{call:zd}(hc:SaysAll Pg call){n:Nat}{t0:List AV}{h:AHeap}{rR:ARes}{hR:AHeap}(z:z14 call n t0 h=some (rR,hR)):Says Pg 29 [.agg t0] h rR hR:=by
 unfold z14 at z;refine sO Tryd.func29 fun w0 m0=>?_;refine wW [(0,.agg t0)] ?_;refine oG fun n1=>W.r ?_;refine oK 1 z fun v1 h_2 z=>?_;refine oN 2 z fun h_4 z=>?_;refine oN 3 z fun h_6 z=>?_;refine oV [(1,v1),(2,z7 h_2),(3,z7 h_4)] (n1 ?_);refine oH fun n8 q8=>?_;refine W.s (fun K9 n9 _ _ _=>?_);refine W.r ?_;refine oF 5 41 0 z fun t5 z=>?_;refine oLi 6 3 z fun t6 z=>?_;refine oB 7 z fun t7 z=>?_;refine oA 8 (.bool t7) ?_;obtain⟨j12,e15,z⟩:=lS z
 have J16:∀(t12:Bool) (h_14:AHeap),j12 t12 h_14=some (rR,hR)→WL Pg w0 m0 (Func.ntmps Tryd.f29) (Code.ops (y6 (y6 (y3 (z4e Tryd.f29))))) 8 K9 [(1,v1),(2,z7 h_2),(3,z7 h_4),(12,.bool t12)] [] h_14:=by
  intro t12 h_14 z;rw[e15] at z;refine oA 13 (.bool t12) ?_;obtain⟨j17,e18,z⟩:=lS z
  have J19:∀(t17:Bool) (h_17:AHeap),j17 t17 h_17=some (rR,hR)→WL Pg w0 m0 (Func.ntmps Tryd.f29) (Code.ops (y6 (y6 (y3 (z4e Tryd.f29))))) 13 K9 [(1,v1),(2,z7 h_2),(3,z7 h_4),(17,.bool t17)] [] h_17:=by
   intro t17 h_17 z;rw[e18] at z;refine oV [(1,v1),(2,z7 h_2),(3,z7 h_4),(17,.bool t17)] (n9 ?_)
   cases t17 with
   |true=>
    refine oT z fun z=>?_;refine oG fun n20=>W.r ?_;refine oA 18 (.agg ([.int .i64 0,.int .u64 0,.int .u64 0,.int .u64 0,.int .u64 0,.nsl]:List AV)) ?_;refine oA 19 (.agg ([.int .i64 2,.int .i64 0]:List AV)) ?_;refine oW 79 (.agg ([.int .i64 0,.int .u64 0,.int .u64 0,.int .u64 0,.int .u64 0,.nsl]:List AV)) z fun h_21 z=>?_;refine oW 81 (.agg ([.int .i64 2,.int .i64 0]:List AV)) z fun h_23 z=>?_;refine oV [(2,z7 h_2),(3,z7 h_4)] (n20 (oY (q8 ?_)));obtain⟨w2,e25,z⟩:=oS z;obtain⟨w3,e26,z⟩:=oS z;exact lZ z [.cell 2 79,.cell 3 81] [.agg w2,.agg w3] (rY e25 (rY e26 zf))
   |false=>
    refine oU z fun z=>?_;refine oZ (n8 ?_);refine oH fun n27 q27=>?_;refine oG fun n28=>W.r ?_;refine oF 20 41 1 z fun t20 z=>?_;refine oLs 21 9 z fun t21 z=>?_;refine oA 22 (.int .i64 (z15b t21)) ?_;refine oB 23 z fun t23 z=>?_;refine oV [(1,v1),(2,z7 h_2),(3,z7 h_4),(23,.bool t23)] (n28 ?_)
    cases t23 with
    |true=>
     refine oT z fun z=>?_;refine oG fun n33=>W.r ?_;refine oA 24 (.agg ([.int .i64 0,.int .u64 0,.int .u64 0,.int .u64 0,.int .u64 0,.nsl]:List AV)) ?_;refine oA 25 (.agg ([.int .i64 3,.int .i64 64]:List AV)) ?_;refine oW 79 (.agg ([.int .i64 0,.int .u64 0,.int .u64 0,.int .u64 0,.int .u64 0,.nsl]:List AV)) z fun h_34 z=>?_;refine oW 81 (.agg ([.int .i64 3,.int .i64 64]:List AV)) z fun h_36 z=>?_;refine oV [(2,z7 h_2),(3,z7 h_4)] (n33 (oY (q27 ?_)));obtain⟨w2_39,e38,z⟩:=oS z;obtain⟨w3_41,e40,z⟩:=oS z;exact lZ z [.cell 2 79,.cell 3 81] [.agg w2_39,.agg w3_41] (rY e38 (rY e40 zf))
    |false=>
     refine oU z fun z=>?_;refine oZ (n27 ?_);refine oG fun n42=>W.r ?_;refine oF 26 41 1 z fun t26 z=>?_;refine oLs 27 9 z fun t27 z=>?_;refine oA 28 (.agg ([z19 t27,.int .i64 0]:List AV)) ?_;refine oK 29 z fun v29 h_46 z=>?_;refine oN 4 z fun h_48 z=>?_;refine oW 95 v29 z fun h_50 z=>?_;refine oV [(1,v1),(2,z7 h_2),(3,z7 h_4),(4,z7 h_46)] (n42 ?_);refine oG fun n52=>W.r ?_;refine oA 30 (AV.fn 36 [] [(z7 h_46),v1,(z7 h_2)]) ?_;refine oCa hc 31 z fun t31 h_53 z=>?_;refine oW 81 (.agg t31) z fun h_56 z=>?_;refine oV [(2,z7 h_2),(3,z7 h_4)] (n52 ?_);refine oH fun n58 q58=>?_;refine oG fun n59=>W.r ?_;refine oA 32 (AV.ptr (AHeap.next h_4) 0) ?_;refine oLi 33 31 z fun t33 z=>?_;refine oB 34 z fun t34 z=>?_;refine oV [(2,z7 h_2),(3,z7 h_4),(34,.bool t34)] (n59 ?_)
     cases t34 with
     |true=>
      refine oT z fun z=>?_;refine oG fun n63=>?_;refine y1e (by kernel_rfl) (hc.ok w0) (plan:=[0,1,2,3]) (by kernel_rfl) (by kernel_rfl) (by kernel_rfl) ?_;refine WD.a 0 (some 35) (.agg ([.int .i64 0,.int .u64 0,.int .u64 0,.int .u64 0,.int .u64 0,.nsl]:List AV)) h_56 ?_;obtain⟨t36,e64,z⟩:=oS z;refine WD.b 1 (some 36) (.agg t36) h_56 (zc6 (P:=Pg) (h:=h_56) (t:=81) (by kernel_rfl) (by kernel_rfl) e64) ?_;obtain⟨h_65,e66,z⟩:=oS z;obtain⟨k67,z⟩:=zef z;refine WD.eff (h':=h_65) (by kernel_rfl) (by kernel_rfl) (Eq.trans (by kernel_rfl) (z3d (P:=Pg) (h:=h_56) (t:=79) (v:=(.agg ([.int .i64 0,.int .u64 0,.int .u64 0,.int .u64 0,.int .u64 0,.nsl]:List AV))) (by kernel_rfl) (by kernel_rfl) e66)) (k:=2) (by kernel_rfl) (fun _=>(Eq.trans (by kernel_rfl) k67)) (by decide) ?_;obtain⟨h_68,e69,z⟩:=oS z;refine WD.eff (h':=h_68) (by kernel_rfl) (by kernel_rfl) (Eq.trans (by kernel_rfl) (z3d (P:=Pg) (h:=h_65) (t:=81) (v:=(.agg t36)) (by kernel_rfl) (by kernel_rfl) e69)) (k:=2) (by kernel_rfl) (fun _=>(by kernel_rfl)) (by decide) ?_;refine WD.nil ?_;refine gW [(2,z7 h_2),(3,z7 h_4)] (n63 (oY (q58 ?_)));obtain⟨w2_71,e70,z⟩:=oS z;obtain⟨w3_73,e72,z⟩:=oS z;exact lZ z [.cell 2 79,.cell 3 81] [.agg w2_71,.agg w3_73] (rY e70 (rY e72 zf))
     |false=>
      refine oU z fun z=>?_;refine oZ (n58 ?_);refine oG fun n74=>?_;refine y1e (by kernel_rfl) (hc.ok w0) (plan:=[0,1,2,3]) (by kernel_rfl) (by kernel_rfl) (by kernel_rfl) ?_;obtain⟨t37,e75,z⟩:=oS z;refine WD.b 1 (some 37) (.agg t37) h_56 (zc6 (P:=Pg) (h:=h_56) (t:=79) (by kernel_rfl) (by kernel_rfl) e75) ?_;obtain⟨t38,e76,z⟩:=oS z;refine WD.b 1 (some 38) (.agg t38) h_56 (zc6 (P:=Pg) (h:=h_56) (t:=81) (by kernel_rfl) (by kernel_rfl) e76) ?_;obtain⟨h_77,e78,z⟩:=oS z;obtain⟨k79,z⟩:=zef z;refine WD.eff (h':=h_77) (by kernel_rfl) (by kernel_rfl) (Eq.trans (by kernel_rfl) (z3d (P:=Pg) (h:=h_56) (t:=79) (v:=(.agg t37)) (by kernel_rfl) (by kernel_rfl) e78)) (k:=2) (by kernel_rfl) (fun _=>(Eq.trans (by kernel_rfl) k79)) (by decide) ?_;obtain⟨h_80,e81,z⟩:=oS z;refine WD.eff (h':=h_80) (by kernel_rfl) (by kernel_rfl) (Eq.trans (by kernel_rfl) (z3d (P:=Pg) (h:=h_77) (t:=81) (v:=(.agg t38)) (by kernel_rfl) (by kernel_rfl) e81)) (k:=2) (by kernel_rfl) (fun _=>(by kernel_rfl)) (by decide) ?_;refine WD.nil ?_;refine gW [(2,z7 h_2),(3,z7 h_4)] (n74 (oY ?_));obtain⟨w2_83,e82,z⟩:=oS z;obtain⟨w3_85,e84,z⟩:=oS z;exact lZ z [.cell 2 79,.cell 3 81] [.agg w2_83,.agg w3_85] (rY e82 (rY e84 zf))
  cases t12 with
  |true=>
   replace z:=zae z
   refine oF 14 41 0 z fun t14 z=>?_;refine oLi 15 3 z fun t15 z=>?_;refine oB 16 z fun t16 z=>?_;refine oA 17 (.bool t16) ?_;exact lW _ (J19 _ _ z)
  |false=>
   replace z:=zaf z
   refine WL.o (some 14) ?_;refine WL.o (some 15) ?_;refine WL.o (some 16) ?_;refine oA 17 (.bool false) ?_;exact lW _ (J19 _ _ z)
 cases t7 with
 |true=>
  replace z:=zae z
  refine oF 9 41 0 z fun t9 z=>?_;refine oLi 10 3 z fun t10 z=>?_;refine oB 11 z fun t11 z=>?_;refine oA 12 (.bool t11) ?_;exact lW _ (J16 _ _ z)
 |false=>
  replace z:=zaf z
  refine WL.o (some 9) ?_;refine WL.o (some 10) ?_;refine WL.o (some 11) ?_;refine oA 12 (.bool false) ?_;exact lW _ (J16 _ _ z)
noncomputable def za8(call:zd)(_:Nat)(t0:AV)(t1:AV)(t2:AV)(h:AHeap):R:=obind (z9 h t0) fun v3=>obind (z4d 0 t1) fun t4=>obind (z9 h t4) fun v5=>obind (avInt .i64 v5) fun t5=>callK (call 37 [v3,.int .i64 t5] h) fun r6 h_5=>obind (z75 r6) fun t6=>obind (z17 h_5 6 t6 t2) fun h_8=>some (.ret (.tup []),h_8)
theorem z265{call:zd}(hc:SaysAll Pg call){n:Nat}{t0:AV}{t1:AV}{t2:AV}{h:AHeap}{rR:ARes}{hR:AHeap}(z:za8 call n t0 t1 t2 h=some (rR,hR)):Says Pg 36 [t0,t1,t2] h rR hR:=by
 unfold za8 at z;refine sO Tryd.func36 fun w0 m0=>?_;refine wW [(0,t0),(1,t1),(2,t2)] ?_;refine W.r ?_;refine oL 3 95 z fun v3 z=>?_;refine oF 4 41 0 z fun t4 z=>?_;refine oLi 5 3 z fun t5 z=>?_;refine oCK hc (some 6) z (fun q=>Pf q) fun r6 h_5 z=>?_
 replace z:=oS z;obtain⟨t6,c7,z⟩:=z
 have c7:=z50 c7;subst c7;refine oW 79 (.agg t6) z fun h_8 z=>?_;refine oV [] ?_;exact lY z [] [] zf
noncomputable def z26(call:zd)(_:Nat)(t0:AV)(t1:Int)(h:AHeap):R:=lett (newH h 79 [.int .i64 0,.int .u64 0,.int .u64 0,.int .u64 0,.int .u64 0,.nsl]) fun h_2=>lett ((t1:Int) == 2) fun (t8:Bool)=>ifB t8 (callK (call 44 [t0,(AV.fn 45 [t0] [])] h_2) fun r12 h_10=>obind (z75 r12) fun t12=>obind (z17 h_10 6 t12 (z7 h)) fun h_13=>obind (z18 h_13 6 (z7 h)) fun w4=>some (.ret (.agg w4),h_13)) (lett ((t1:Int) == 3) fun (t14:Bool)=>ifB t14 (callK (call 46 [t0] h_2) fun r16 h_20=>obind (z75 r16) fun t16=>lett (newH h_20 79 [.int .i64 0,.int .u64 0,.int .u64 0,.int .u64 0,.int .u64 0,.nsl]) fun h_23=>obind (z17 h_23 6 t16 (z7 h_20)) fun h_25=>callK (call 47 [t0] h_25) fun _ h_28=>obind (z18 h_28 6 (z7 h_20)) fun t19=>obind (z17 h_28 6 t19 (z7 h)) fun h_32=>obind (z18 h_32 6 (z7 h)) fun w4_35=>some (.ret (.agg w4_35),h_32)) (callK (call 44 [t0,(AV.fn 48 [t0] [])] h_2) fun r23 h_39=>obind (z75 r23) fun t23=>obind (z17 h_39 6 t23 (z7 h)) fun h_42=>obind (z18 h_42 6 (z7 h)) fun w4_45=>some (.ret (.agg w4_45),h_42)))
theorem z1bd{call:zd}(hc:SaysAll Pg call){n:Nat}{t0:AV}{t1:Int}{h:AHeap}{rR:ARes}{hR:AHeap}(z:z26 call n t0 t1 h=some (rR,hR)):Says Pg 37 [t0,.int .i64 t1] h rR hR:=by
 unfold z26 at z;refine sO Tryd.func37 fun w0 m0=>?_;refine wW [(0,t0),(1,.int .i64 t1)] ?_;refine oG fun n1=>W.r ?_;refine oN 4 z fun h_2 z=>?_;refine oV [(0,t0),(1,.int .i64 t1),(4,z7 h)] (n1 ?_);refine W.s (fun _ n4 _ q4 p4=>?_);refine oG fun n5=>W.r ?_;refine oA 6 (.int .i64 t1) ?_;refine oV [(0,t0),(4,z7 h),(6,.int .i64 t1)] (n5 ?_);refine yd (by kernel_rfl) (fun K6 n6 s6 o6 q6 p6=>?_);refine oG fun n7=>W.r ?_;refine oB 8 z fun t8 z=>?_;refine oA 7 (.bool t8) ?_;refine oV [(0,t0),(4,z7 h),(6,.int .i64 t1),(7,.bool t8)] (n7 ?_)
 cases t8 with
 |true=>
  refine oT z fun z=>?_;refine oJ fun n9 p9=>W.r ?_;refine oA 9 t0 ?_;refine oA 10 t0 ?_;refine oA 11 (AV.fn 45 [t0] []) ?_;refine oCK hc (some 12) z (fun q=>p9 (p6 (p4 (Pf q)))) fun r12 h_10 z=>?_
  replace z:=oS z;obtain⟨t12,c12,z⟩:=z
  have c12:=z50 c12;subst c12;refine oW 79 (.agg t12) z fun h_13 z=>?_;refine oV [(4,z7 h)] (n9 (oY (q6 (q4 ?_))));obtain⟨w4,e15,z⟩:=oS z;exact lZ z [.cell 4 79] [.agg w4] (rY e15 zf)
 |false=>
  refine oU z fun z=>?_;refine oG fun n17=>W.r ?_;refine oB 14 z fun t14 z=>?_;refine oA 13 (.bool t14) ?_;refine oV [(0,t0),(4,z7 h),(13,.bool t14)] (n17 ?_)
  cases t14 with
  |true=>
   refine oT z fun z=>?_;refine oJ fun n19 p19=>W.r ?_;refine oA 15 t0 ?_;refine oCK hc (some 16) z (fun q=>p19 (p6 (p4 (Pf q)))) fun r16 h_20 z=>?_
   replace z:=oS z;obtain⟨t16,c22,z⟩:=z
   have c22:=z50 c22;subst c22;refine oN 5 z fun h_23 z=>?_;refine oW 79 (.agg t16) z fun h_25 z=>?_;refine oV [(0,t0),(4,z7 h),(5,z7 h_20)] (n19 ?_);refine oJ fun n27 p27=>W.r ?_;refine oA 17 t0 ?_;refine oCK hc (some 18) z (fun q=>p27 (p6 (p4 (Pf q)))) fun r18 h_28 z=>?_;refine oV [(4,z7 h),(5,z7 h_20)] (n27 ?_);refine oG fun n30=>W.r ?_;refine oR 19 79 z fun t19 z=>?_;refine oW 79 (.agg t19) z fun h_32 z=>?_;refine oV [(4,z7 h)] (n30 (oY (q6 (q4 ?_))));obtain⟨w4_35,e34,z⟩:=oS z;exact lZ z [.cell 4 79] [.agg w4_35] (rY e34 zf)
  |false=>
   refine oU z fun z=>?_;refine oZ (n6 (n4 ?_));refine oJ fun n38 p38=>W.r ?_;refine oA 20 t0 ?_;refine oA 21 t0 ?_;refine oA 22 (AV.fn 48 [t0] []) ?_;refine oCK hc (some 23) z (fun q=>p38 (Pf q)) fun r23 h_39 z=>?_
   replace z:=oS z;obtain⟨t23,c41,z⟩:=z
   have c41:=z50 c41;subst c41;refine oW 79 (.agg t23) z fun h_42 z=>?_;refine oV [(4,z7 h)] (n38 (oY ?_));obtain⟨w4_45,e44,z⟩:=oS z;exact lZ z [.cell 4 79] [.agg w4_45] (rY e44 zf)
noncomputable def z4f(call:zd)(t0:AV)(t1:AV)(k7:AV→AHeap→R)(self:AV→AHeap→R)(t5_17:AV)(h_18:AHeap):R:=callN (call 49 [t0] h_18) fun r7 h_21=>obind (z23 r7) fun t7=>lett (!t7) fun (t8:Bool)=>ifB t8 (callK (z47e Pg call t1 [] h_21) fun r11 h_26=>obind (z75 r11) fun t11=>outK (zdb Pg h_26 77 1 [(0,.agg t11)]) fun v12 h_29=>outK (z4b Pg h_29 77 77 t5_17 v12) fun v13 h_31=>self v13 h_31) (k7 t5_17 h_21)
noncomputable def z77(call:zd)(t0:AV)(t1:AV)(k7:AV→AHeap→R):Nat→AV→AHeap→R:=z103 (fun _ _=>none) (z4f call t0 t1 k7)
theorem z8a(call:zd)(t0:AV)(t1:AV)(k7:AV→AHeap→R)(m:Nat):z77 call t0 t1 k7 (m+1)=z4f call t0 t1 k7 (z77 call t0 t1 k7 m):=rfl
noncomputable def z7d(call:zd)(n:Nat)(t0:AV)(t1:AV)(h:AHeap):R:=lett (newH h 79 [.int .i64 0,.int .u64 0,.int .u64 0,.int .u64 0,.int .u64 0,.nsl]) fun h_2=>lett (fun (t5:AV) (h_8:AHeap)=>callN (call 50 [t5] h_8) fun r15 h_10=>obind (z75 r15) fun t15=>obind (z17 h_10 6 t15 (z7 h)) fun h_13=>obind (z18 h_13 6 (z7 h)) fun w4=>some (.ret (.agg w4),h_13)) fun k7=>z77 call t0 t1 k7 n AV.nsl h_2
theorem z1cb{call:zd}(hc:SaysAll Pg call){n:Nat}{t0:AV}{t1:AV}{h:AHeap}{rR:ARes}{hR:AHeap}(z:z7d call n t0 t1 h=some (rR,hR)):Says Pg 44 [t0,t1] h rR hR:=by
 unfold z7d at z;refine sO Tryd.func44 fun w0 m0=>?_;refine wW [(0,t0),(1,t1)] ?_;refine oG fun n1=>W.r ?_;refine oN 4 z fun h_2 z=>?_;refine oV [(0,t0),(1,t1),(4,z7 h)] (n1 ?_);refine oG fun n4=>W.r ?_;refine oA 5 AV.nsl ?_;refine oV [(0,t0),(1,t1),(4,z7 h),(5,AV.nsl)] (n4 ?_);refine W.s (fun K5 n5 _ _ p5=>?_);obtain⟨k7,e7,z⟩:=lS z
 have J7:∀(t5:AV) (h_8:AHeap),k7 t5 h_8=some (rR,hR)→Go w0 m0 (Func.ntmps Tryd.f44) (K5 .normal) [(4,z7 h),(5,t5)] [] h_8:=by
  intro t5 h_8 z;rw[e7] at z;refine n5 ?_;refine oG fun n9=>W.r ?_;refine oA 14 t5 ?_;refine oCa hc 15 z fun t15 h_10 z=>?_;refine oW 79 (.agg t15) z fun h_13 z=>?_;refine oV [(4,z7 h)] (n9 (oY ?_));obtain⟨w4,e15,z⟩:=oS z;exact lZ z [.cell 4 79] [.agg w4] (rY e15 zf)
 refine yd (by kernel_rfl) (fun K6 n6 s6 o6 q6 p6=>?_);refine y17 (by kernel_rfl) (fun I16 K16 b16 n16 e16 q16 p16=>?_)
 have L16:∀(m:Nat) (t5_17:AV) (h_18:AHeap),z77 call t0 t1 k7 m t5_17 h_18=some (rR,hR)→Go w0 m0 (Func.ntmps Tryd.f44) I16 [(0,t0),(1,t1),(4,z7 h),(5,t5_17)] [] h_18:=by
  intro m
  induction m with
  |zero=>intro t5_17 h_18 z;cases z
  |succ m ih16=>
   intro t5_17 h_18 z;rw[z8a] at z;unfold z4f at z;refine b16 ?_;refine W.s (fun _ n19 e19 _ _=>?_);refine oG fun n20=>W.r ?_;refine oA 6 t0 ?_;refine oCb hc 7 z fun t7 h_21 z=>?_;refine oB 8 z fun t8 z=>?_;refine oV [(0,t0),(1,t1),(4,z7 h),(5,t5_17),(8,.bool t8)] (n20 ?_)
   cases t8 with
   |true=>
    refine oT z fun z=>?_;refine oZ (n19 ?_);refine yd (by kernel_rfl) (fun K25 n25 s25 o25 q25 p25=>?_);refine W.r ?_;refine oA 9 t5_17 ?_;refine oA 10 t1 ?_
    replace z:=z32c z;rcases z with⟨r11,h_26,e27,z⟩|⟨r11,h_26,e27,q34⟩
    ·replace z := oS z; obtain ⟨t11, c28, z⟩ := z
     have c28:=z50 c28;subst c28
     rcases z24b e27 with⟨d33g,d33as,d33h,d331,d332⟩|⟨d33v,d33h,d331,d332⟩
     rotate_left
     ·cases d332
      refine WL.val (d:=(some 11)) (by kernel_rfl) (by kernel_rfl) (Eq.trans (by kernel_rfl) d331) ?_;obtain⟨v12,h_29,e30,z⟩:=z27 z;refine WL.b (some 12) v12 h_29 e30 ?_;obtain⟨v13,h_31,e32,z⟩:=z27 z;refine WL.b (some 13) v13 h_31 e32 ?_;refine oA 5 v13 ?_;refine oV [(0,t0),(1,t1),(4,z7 h),(5,v13)] (n25 (n16 ?_));exact gW _ (ih16 _ _ z)
     ·refine WL.call (hc.ok w0) (d := (some 11)) (by kernel_rfl) (by kernel_rfl) (Eq.trans (by kernel_rfl) d331) d332 ?_
      obtain⟨v12,h_29,e30,z⟩:=z27 z;refine WL.b (some 12) v12 h_29 e30 ?_;obtain⟨v13,h_31,e32,z⟩:=z27 z;refine WL.b (some 13) v13 h_31 e32 ?_;refine oA 5 v13 ?_;refine oV [(0,t0),(1,t1),(4,z7 h),(5,v13)] (n25 (n16 ?_));exact gW _ (ih16 _ _ z)
    ·obtain ⟨zq, zr⟩ := pan_inj q34; subst zq; subst zr
     rcases z24b e27 with⟨d33g,d33as,d33h,d331,d332⟩|⟨d33v,d33h,d331,d332⟩
     ·exact y3d (hc.ok w0) (d:=(some 11)) (by kernel_rfl) (by kernel_rfl) (Eq.trans (by kernel_rfl) d331) d332 (p25 (p16 (p6 (p5 y5a))))
     ·cases d332
   |false=>
    refine oU z fun z=>?_;refine W.exit (by kernel_rfl) ?_;refine e19 (e16 ?_);refine s6 (by kernel_rfl) ?_;exact gW _ (J7 _ _ z)
 exact gW _ (L16 _ _ _ z)
noncomputable def z2e(call:zd)(_:Nat)(t0:AV)(h:AHeap):R:=lett (newH h 79 [.int .i64 0,.int .u64 0,.int .u64 0,.int .u64 0,.int .u64 0,.nsl]) fun h_2=>callK (call 51 [t0] h_2) fun r4 h_5=>obind (avInt .u8 r4) fun t4=>callN (call 54 [.int .u8 t4] h_5) fun r5 h_8=>obind (z75 r5) fun t5=>obind (z17 h_8 6 t5 (z7 h)) fun h_11=>obind (z18 h_11 6 (z7 h)) fun w2=>some (.ret (.agg w2),h_11)
theorem z141{call:zd}(hc:SaysAll Pg call){n:Nat}{t0:AV}{h:AHeap}{rR:ARes}{hR:AHeap}(z:z2e call n t0 h=some (rR,hR)):Says Pg 48 [t0] h rR hR:=by
 unfold z2e at z;refine sO Tryd.func48 fun w0 m0=>?_;refine wW [(0,t0)] ?_;refine oG fun n1=>W.r ?_;refine oN 2 z fun h_2 z=>?_;refine oV [(0,t0),(2,z7 h)] (n1 ?_);refine oJ fun n4 p4=>W.r ?_;refine oA 3 t0 ?_;refine oCK hc (some 4) z (fun q=>p4 (Pf q)) fun r4 h_5 z=>?_
 replace z:=oS z;obtain⟨t4,c7,z⟩:=z
 have c7:=z1a c7;subst c7;refine oCa hc 5 z fun t5 h_8 z=>?_;refine oW 79 (.agg t5) z fun h_11 z=>?_;refine oV [(2,z7 h)] (n4 (oY ?_));obtain⟨w2,e13,z⟩:=oS z;exact lZ z [.cell 2 79] [.agg w2] (rY e13 zf)
noncomputable def z20(call:zd)(_:Nat)(t0:AV)(h:AHeap):R:=lett (newH h 79 [.int .i64 0,.int .u64 0,.int .u64 0,.int .u64 0,.int .u64 0,.nsl]) fun h_2=>callK (call 51 [t0] h_2) fun r5 h_5=>obind (avInt .u8 r5) fun t5=>lett ((t5:Int) == 42) fun (t10:Bool)=>ifB t10 (callN (call 53 [] h_5) fun r11 h_13=>obind (z75 r11) fun t11=>outK (zdb Pg h_13 77 1 [(0,.agg t11)]) fun v12 h_16=>callN (call 52 [.int .i64 5,v12] h_16) fun r13 h_18=>obind (z75 r13) fun t13=>obind (z17 h_18 6 t13 (z7 h)) fun h_21=>obind (z18 h_21 6 (z7 h)) fun w2=>some (.ret (.agg w2),h_21)) (lett ((t5:Int) == 63) fun (t15:Bool)=>ifB t15 (callN (call 53 [] h_5) fun r16 h_27=>obind (z75 r16) fun t16=>obind (z17 h_27 6 t16 (z7 h)) fun h_30=>obind (z18 h_30 6 (z7 h)) fun w2_33=>some (.ret (.agg w2_33),h_30)) (lett ((t5:Int) == 92) fun (t18:Bool)=>ifB t18 (callK (call 51 [t0] h_5) fun r20 h_37=>obind (avInt .u8 r20) fun t20=>callN (call 54 [.int .u8 t20] h_37) fun r21 h_40=>obind (z75 r21) fun t21=>obind (z17 h_40 6 t21 (z7 h)) fun h_43=>obind (z18 h_43 6 (z7 h)) fun w2_46=>some (.ret (.agg w2_46),h_43)) (callN (call 54 [.int .u8 t5] h_5) fun r8 h_49=>obind (z75 r8) fun t8=>obind (z17 h_49 6 t8 (z7 h)) fun h_52=>obind (z18 h_52 6 (z7 h)) fun w2_55=>some (.ret (.agg w2_55),h_52))))
theorem z173{call:zd}(hc:SaysAll Pg call){n:Nat}{t0:AV}{h:AHeap}{rR:ARes}{hR:AHeap}(z:z20 call n t0 h=some (rR,hR)):Says Pg 45 [t0] h rR hR:=by
 unfold z20 at z;refine sO Tryd.func45 fun w0 m0=>?_;refine wW [(0,t0)] ?_;refine oG fun n1=>W.r ?_;refine oN 2 z fun h_2 z=>?_;refine oV [(0,t0),(2,z7 h)] (n1 ?_);refine oJ fun n4 p4=>W.r ?_;refine oA 4 t0 ?_;refine oCK hc (some 5) z (fun q=>p4 (Pf q)) fun r5 h_5 z=>?_
 replace z:=oS z;obtain⟨t5,c7,z⟩:=z
 have c7:=z1a c7;subst c7;refine oA 3 (.int .u8 t5) ?_;refine oV [(0,t0),(2,z7 h),(3,.int .u8 t5)] (n4 ?_);refine oG fun n8=>W.r ?_;refine oA 6 (.int .u8 t5) ?_;refine oV [(0,t0),(2,z7 h),(3,.int .u8 t5),(6,.int .u8 t5)] (n8 ?_);refine yd (by kernel_rfl) (fun K9 n9 s9 o9 q9 p9=>?_);refine oG fun n10=>W.r ?_;refine oB 10 z fun t10 z=>?_;refine oA 9 (.bool t10) ?_;refine oV [(0,t0),(2,z7 h),(3,.int .u8 t5),(6,.int .u8 t5),(9,.bool t10)] (n10 ?_)
 cases t10 with
 |true=>
  refine oT z fun z=>?_;refine oG fun n12=>W.r ?_;refine oCa hc 11 z fun t11 h_13 z=>?_;refine oK 12 z fun v12 h_16 z=>?_;refine oCa hc 13 z fun t13 h_18 z=>?_;refine oW 79 (.agg t13) z fun h_21 z=>?_;refine oV [(2,z7 h)] (n12 (oY (q9 ?_)));obtain⟨w2,e23,z⟩:=oS z;exact lZ z [.cell 2 79] [.agg w2] (rY e23 zf)
 |false=>
  refine oU z fun z=>?_;refine oG fun n24=>W.r ?_;refine oB 15 z fun t15 z=>?_;refine oA 14 (.bool t15) ?_;refine oV [(0,t0),(2,z7 h),(3,.int .u8 t5),(6,.int .u8 t5),(14,.bool t15)] (n24 ?_)
  cases t15 with
  |true=>
   refine oT z fun z=>?_;refine oG fun n26=>W.r ?_;refine oCa hc 16 z fun t16 h_27 z=>?_;refine oW 79 (.agg t16) z fun h_30 z=>?_;refine oV [(2,z7 h)] (n26 (oY (q9 ?_)));obtain⟨w2_33,e32,z⟩:=oS z;exact lZ z [.cell 2 79] [.agg w2_33] (rY e32 zf)
  |false=>
   refine oU z fun z=>?_;refine oG fun n34=>W.r ?_;refine oB 18 z fun t18 z=>?_;refine oA 17 (.bool t18) ?_;refine oV [(0,t0),(2,z7 h),(3,.int .u8 t5),(17,.bool t18)] (n34 ?_)
   cases t18 with
   |true=>
    refine oT z fun z=>?_;refine oJ fun n36 p36=>W.r ?_;refine oA 19 t0 ?_;refine oCK hc (some 20) z (fun q=>p36 (p9 (Pf q))) fun r20 h_37 z=>?_
    replace z:=oS z;obtain⟨t20,c39,z⟩:=z
    have c39:=z1a c39;subst c39;refine oCa hc 21 z fun t21 h_40 z=>?_;refine oW 79 (.agg t21) z fun h_43 z=>?_;refine oV [(2,z7 h)] (n36 (oY (q9 ?_)));obtain⟨w2_46,e45,z⟩:=oS z;exact lZ z [.cell 2 79] [.agg w2_46] (rY e45 zf)
   |false=>
    refine oU z fun z=>?_;refine oG fun n48=>W.r ?_;refine oA 7 (.int .u8 t5) ?_;refine oCa hc 8 z fun t8 h_49 z=>?_;refine oW 79 (.agg t8) z fun h_52 z=>?_;refine oV [(2,z7 h)] (n48 (oY (q9 ?_)));obtain⟨w2_55,e54,z⟩:=oS z;exact lZ z [.cell 2 79] [.agg w2_55] (rY e54 zf)
noncomputable def z2a(call:zd)(t0:AV)(k12:AV→AHeap→R)(self:AV→AHeap→R)(t3_33:AV)(h_34:AHeap):R:=callN (call 56 [t0,.int .u8 124] h_34) fun r8 h_37=>obind (z23 r8) fun t8=>ifB t8 (callK (call 55 [t0] h_37) fun r11 h_41=>obind (z75 r11) fun t11=>outK (zdb Pg h_41 77 1 [(0,.agg t11)]) fun v12 h_44=>outK (z4b Pg h_44 77 77 t3_33 v12) fun v13 h_46=>self v13 h_46) (k12 t3_33 h_37)
noncomputable def z32(call:zd)(t0:AV)(k12:AV→AHeap→R):Nat→AV→AHeap→R:=z103 (fun _ _=>none) (z2a call t0 k12)
theorem z41(call:zd)(t0:AV)(k12:AV→AHeap→R)(m:Nat):z32 call t0 k12 (m+1)=z2a call t0 k12 (z32 call t0 k12 m):=rfl
noncomputable def z2b(call:zd)(n:Nat)(t0:AV)(h:AHeap):R:=lett (newH h 79 [.int .i64 0,.int .u64 0,.int .u64 0,.int .u64 0,.int .u64 0,.nsl]) fun h_2=>callK (call 55 [t0] h_2) fun r5 h_5=>obind (z75 r5) fun t5=>outK (zdb Pg h_5 77 1 [(0,.agg t5)]) fun v6 h_8=>lett (fun (t3:AV) (h_13:AHeap)=>obind (z153 t3) fun t15=>lett ((t15:Int) == 1) fun (t16:Bool)=>ifB t16 (obind (z1a6 6 t3 0) fun t18=>obind (z18 h_13 6 t18) fun t19=>obind (z17 h_13 6 t19 (z7 h)) fun h_21=>obind (z18 h_21 6 (z7 h)) fun w2=>some (.ret (.agg w2),h_21)) (callN (call 52 [.int .i64 4,t3] h_13) fun r21 h_25=>obind (z75 r21) fun t21=>obind (z17 h_25 6 t21 (z7 h)) fun h_28=>obind (z18 h_28 6 (z7 h)) fun w2_31=>some (.ret (.agg w2_31),h_28))) fun k12=>z32 call t0 k12 n v6 h_8
theorem z137{call:zd}(hc:SaysAll Pg call){n:Nat}{t0:AV}{h:AHeap}{rR:ARes}{hR:AHeap}(z:z2b call n t0 h=some (rR,hR)):Says Pg 46 [t0] h rR hR:=by
 unfold z2b at z;refine sO Tryd.func46 fun w0 m0=>?_;refine wW [(0,t0)] ?_;refine oG fun n1=>W.r ?_;refine oN 2 z fun h_2 z=>?_;refine oV [(0,t0),(2,z7 h)] (n1 ?_);refine oJ fun n4 p4=>W.r ?_;refine oA 4 t0 ?_;refine oCK hc (some 5) z (fun q=>p4 (Pf q)) fun r5 h_5 z=>?_
 replace z:=oS z;obtain⟨t5,c7,z⟩:=z
 have c7:=z50 c7;subst c7;refine oK 6 z fun v6 h_8 z=>?_;refine oA 3 v6 ?_;refine oV [(0,t0),(2,z7 h),(3,v6)] (n4 ?_);refine W.s (fun K10 n10 _ _ p10=>?_);obtain⟨k12,e12,z⟩:=lS z
 have J12:∀(t3:AV) (h_13:AHeap),k12 t3 h_13=some (rR,hR)→Go w0 m0 (Func.ntmps Tryd.f46) (K10 .normal) [(2,z7 h),(3,t3)] [] h_13:=by
  intro t3 h_13 z;rw[e12] at z;refine n10 ?_;refine oH fun n14 q14=>?_;refine oG fun n15=>W.r ?_;refine oA 14 t3 ?_;refine oM 15 77 79 z fun t15 z=>?_;refine oB 16 z fun t16 z=>?_;refine oV [(2,z7 h),(3,t3),(16,.bool t16)] (n15 ?_)
  cases t16 with
  |true=>
   refine oT z fun z=>?_;refine oG fun n18=>W.r ?_;refine oA 17 t3 ?_;refine oP 18 77 79 .i64 z fun t18 z=>?_;refine oR 19 79 z fun t19 z=>?_;refine oW 79 (.agg t19) z fun h_21 z=>?_;refine oV [(2,z7 h)] (n18 (oY (q14 ?_)));obtain⟨w2,e23,z⟩:=oS z;exact lZ z [.cell 2 79] [.agg w2] (rY e23 zf)
  |false=>
   refine oU z fun z=>?_;refine oZ (n14 ?_);refine oG fun n24=>W.r ?_;refine oA 20 t3 ?_;refine oCa hc 21 z fun t21 h_25 z=>?_;refine oW 79 (.agg t21) z fun h_28 z=>?_;refine oV [(2,z7 h)] (n24 (oY ?_));obtain⟨w2_31,e30,z⟩:=oS z;exact lZ z [.cell 2 79] [.agg w2_31] (rY e30 zf)
 refine yd (by kernel_rfl) (fun K11 n11 s11 o11 q11 p11=>?_);refine y17 (by kernel_rfl) (fun I32 K32 b32 n32 e32 q32 p32=>?_)
 have L32:∀(m:Nat) (t3_33:AV) (h_34:AHeap),z32 call t0 k12 m t3_33 h_34=some (rR,hR)→Go w0 m0 (Func.ntmps Tryd.f46) I32 [(0,t0),(2,z7 h),(3,t3_33)] [] h_34:=by
  intro m
  induction m with
  |zero=>intro t3_33 h_34 z;cases z
  |succ m ih32=>
   intro t3_33 h_34 z;rw[z41] at z;unfold z2a at z;refine b32 ?_;refine W.s (fun _ n35 e35 _ _=>?_);refine oG fun n36=>W.r ?_;refine oA 7 t0 ?_;refine oCb hc 8 z fun t8 h_37 z=>?_;refine oV [(0,t0),(2,z7 h),(3,t3_33),(8,.bool t8)] (n36 ?_)
   cases t8 with
   |true=>
    refine oT z fun z=>?_;refine oZ (n35 ?_);refine yd (by kernel_rfl) (fun K40 n40 s40 o40 q40 p40=>?_);refine W.r ?_;refine oA 9 t3_33 ?_;refine oA 10 t0 ?_;refine oCK hc (some 11) z (fun q=>p40 (p32 (p11 (p10 (Pf q))))) fun r11 h_41 z=>?_
    replace z:=oS z;obtain⟨t11,c43,z⟩:=z
    have c43:=z50 c43;subst c43;refine oK 12 z fun v12 h_44 z=>?_;refine oK 13 z fun v13 h_46 z=>?_;refine oA 3 v13 ?_;refine oV [(0,t0),(2,z7 h),(3,v13)] (n40 (n32 ?_));exact gW _ (ih32 _ _ z)
   |false=>
    refine oU z fun z=>?_;refine W.exit (by kernel_rfl) ?_;refine e35 (e32 ?_);refine s11 (by kernel_rfl) ?_;exact gW _ (J12 _ _ z)
 exact gW _ (L32 _ _ _ z)
noncomputable def z30(call:zd)(t0:AV)(k7:AV→AHeap→R)(self:AV→AHeap→R)(t3_17:AV)(h_18:AHeap):R:=callN (call 49 [t0] h_18) fun r5 h_21=>obind (z23 r5) fun t5=>lett (!t5) fun (t6:Bool)=>lett (fun (t11:Bool) (h_25:AHeap)=>lett (fun (t16:Bool) (h_28:AHeap)=>ifB t16 (callK (call 60 [t0] h_28) fun r19 h_32=>obind (z75 r19) fun t19=>outK (zdb Pg h_32 77 1 [(0,.agg t19)]) fun v20 h_35=>outK (z4b Pg h_35 77 77 t3_17 v20) fun v21 h_37=>self v21 h_37) (k7 t3_17 h_28)) fun j16=>ifB t11 (callN (call 59 [t0,.int .u8 41] h_25) fun r14 h_40=>obind (z23 r14) fun t14=>lett (!t14) fun (t15:Bool)=>j16 t15 h_40) (j16 false h_25)) fun j11=>ifB t6 (callN (call 59 [t0,.int .u8 124] h_21) fun r9 h_44=>obind (z23 r9) fun t9=>lett (!t9) fun (t10:Bool)=>j11 t10 h_44) (j11 false h_21)
noncomputable def z3e(call:zd)(t0:AV)(k7:AV→AHeap→R):Nat→AV→AHeap→R:=z103 (fun _ _=>none) (z30 call t0 k7)
theorem z4a(call:zd)(t0:AV)(k7:AV→AHeap→R)(m:Nat):z3e call t0 k7 (m+1)=z30 call t0 k7 (z3e call t0 k7 m):=rfl
noncomputable def z39(call:zd)(n:Nat)(t0:AV)(h:AHeap):R:=lett (newH h 79 [.int .i64 0,.int .u64 0,.int .u64 0,.int .u64 0,.int .u64 0,.nsl]) fun h_2=>lett (fun (t3:AV) (h_8:AHeap)=>callN (call 50 [t3] h_8) fun r23 h_10=>obind (z75 r23) fun t23=>obind (z17 h_10 6 t23 (z7 h)) fun h_13=>obind (z18 h_13 6 (z7 h)) fun w2=>some (.ret (.agg w2),h_13)) fun k7=>z3e call t0 k7 n AV.nsl h_2
theorem z14b{call:zd}(hc:SaysAll Pg call){n:Nat}{t0:AV}{h:AHeap}{rR:ARes}{hR:AHeap}(z:z39 call n t0 h=some (rR,hR)):Says Pg 55 [t0] h rR hR:=by
 unfold z39 at z;refine sO Tryd.func55 fun w0 m0=>?_;refine wW [(0,t0)] ?_;refine oG fun n1=>W.r ?_;refine oN 2 z fun h_2 z=>?_;refine oV [(0,t0),(2,z7 h)] (n1 ?_);refine oG fun n4=>W.r ?_;refine oA 3 AV.nsl ?_;refine oV [(0,t0),(2,z7 h),(3,AV.nsl)] (n4 ?_);refine W.s (fun K5 n5 _ _ p5=>?_);obtain⟨k7,e7,z⟩:=lS z
 have J7:∀(t3:AV) (h_8:AHeap),k7 t3 h_8=some (rR,hR)→Go w0 m0 (Func.ntmps Tryd.f55) (K5 .normal) [(2,z7 h),(3,t3)] [] h_8:=by
  intro t3 h_8 z;rw[e7] at z;refine n5 ?_;refine oG fun n9=>W.r ?_;refine oA 22 t3 ?_;refine oCa hc 23 z fun t23 h_10 z=>?_;refine oW 79 (.agg t23) z fun h_13 z=>?_;refine oV [(2,z7 h)] (n9 (oY ?_));obtain⟨w2,e15,z⟩:=oS z;exact lZ z [.cell 2 79] [.agg w2] (rY e15 zf)
 refine yd (by kernel_rfl) (fun K6 n6 s6 o6 q6 p6=>?_);refine y17 (by kernel_rfl) (fun I16 K16 b16 n16 e16 q16 p16=>?_)
 have L16:∀(m:Nat) (t3_17:AV) (h_18:AHeap),z3e call t0 k7 m t3_17 h_18=some (rR,hR)→Go w0 m0 (Func.ntmps Tryd.f55) I16 [(0,t0),(2,z7 h),(3,t3_17)] [] h_18:=by
  intro m
  induction m with
  |zero=>intro t3_17 h_18 z;cases z
  |succ m ih16=>
   intro t3_17 h_18 z;rw[z4a] at z;unfold z30 at z;refine b16 ?_;refine W.s (fun _ n19 e19 _ _=>?_);refine W.s (fun K20 n20 _ _ _=>?_);refine W.r ?_;refine oA 4 t0 ?_;refine oCb hc 5 z fun t5 h_21 z=>?_;refine oB 6 z fun t6 z=>?_;refine oA 7 (.bool t6) ?_;obtain⟨j11,e26,z⟩:=lS z
   have J27:∀(t11:Bool) (h_25:AHeap),j11 t11 h_25=some (rR,hR)→WL Pg w0 m0 (Func.ntmps Tryd.f55) (Code.ops (y6 (y6 (y6 (y6 (y6 (y3 (y3 (z4e Tryd.f55))))))))) 8 K20 [(0,t0),(2,z7 h),(3,t3_17),(11,.bool t11)] [] h_25:=by
    intro t11 h_25 z;rw[e26] at z;refine oA 12 (.bool t11) ?_;obtain⟨j16,e29,z⟩:=lS z
    have J30:∀(t16:Bool) (h_28:AHeap),j16 t16 h_28=some (rR,hR)→WL Pg w0 m0 (Func.ntmps Tryd.f55) (Code.ops (y6 (y6 (y6 (y6 (y6 (y3 (y3 (z4e Tryd.f55))))))))) 13 K20 [(0,t0),(2,z7 h),(3,t3_17),(16,.bool t16)] [] h_28:=by
     intro t16 h_28 z;rw[e29] at z;refine oV [(0,t0),(2,z7 h),(3,t3_17),(16,.bool t16)] (n20 ?_)
     cases t16 with
     |true=>
      refine oT z fun z=>?_;refine oZ (n19 ?_);refine yd (by kernel_rfl) (fun K31 n31 s31 o31 q31 p31=>?_);refine W.r ?_;refine oA 17 t3_17 ?_;refine oA 18 t0 ?_;refine oCK hc (some 19) z (fun q=>p31 (p16 (p6 (p5 (Pf q))))) fun r19 h_32 z=>?_
      replace z:=oS z;obtain⟨t19,c34,z⟩:=z
      have c34:=z50 c34;subst c34;refine oK 20 z fun v20 h_35 z=>?_;refine oK 21 z fun v21 h_37 z=>?_;refine oA 3 v21 ?_;refine oV [(0,t0),(2,z7 h),(3,v21)] (n31 (n16 ?_));exact gW _ (ih16 _ _ z)
     |false=>
      refine oU z fun z=>?_;refine W.exit (by kernel_rfl) ?_;refine e19 (e16 ?_);refine s6 (by kernel_rfl) ?_;exact gW _ (J7 _ _ z)
    cases t11 with
    |true=>
     replace z:=zae z
     refine oA 13 t0 ?_;refine oCb hc 14 z fun t14 h_40 z=>?_;refine oB 15 z fun t15 z=>?_;refine oA 16 (.bool t15) ?_;exact lW _ (J30 _ _ z)
    |false=>
     replace z:=zaf z
     refine WL.o (some 13) ?_;refine WL.o (some 14) ?_;refine WL.o (some 15) ?_;refine oA 16 (.bool false) ?_;exact lW _ (J30 _ _ z)
   cases t6 with
   |true=>
    replace z:=zae z
    refine oA 8 t0 ?_;refine oCb hc 9 z fun t9 h_44 z=>?_;refine oB 10 z fun t10 z=>?_;refine oA 11 (.bool t10) ?_;exact lW _ (J27 _ _ z)
   |false=>
    replace z:=zaf z
    refine WL.o (some 8) ?_;refine WL.o (some 9) ?_;refine WL.o (some 10) ?_;refine oA 11 (.bool false) ?_;exact lW _ (J27 _ _ z)
 exact gW _ (L16 _ _ _ z)
noncomputable def z1e(call:zd)(_:Nat)(t0:AV)(h:AHeap):R:=lett (newH h 79 [.int .i64 0,.int .u64 0,.int .u64 0,.int .u64 0,.int .u64 0,.nsl]) fun h_2=>callK (call 61 [t0] h_2) fun r5 h_5=>obind (z75 r5) fun t5=>lett (newH h_5 79 [.int .i64 0,.int .u64 0,.int .u64 0,.int .u64 0,.int .u64 0,.nsl]) fun h_8=>obind (z17 h_8 6 t5 (z7 h_5)) fun h_10=>callN (call 56 [t0,.int .u8 42] h_10) fun r8 h_15=>obind (z23 r8) fun t8=>ifB t8 (obind (z18 h_15 6 (z7 h_5)) fun t9=>outK (zdb Pg h_15 77 1 [(0,.agg t9)]) fun v10 h_20=>callN (call 52 [.int .i64 5,v10] h_20) fun r11 h_22=>obind (z75 r11) fun t11=>obind (z17 h_22 6 t11 (z7 h)) fun h_25=>obind (z18 h_25 6 (z7 h)) fun w2=>some (.ret (.agg w2),h_25)) (callN (call 56 [t0,.int .u8 43] h_15) fun r14 h_29=>obind (z23 r14) fun t14=>ifB t14 (obind (z18 h_29 6 (z7 h_5)) fun t15=>outK (zdb Pg h_29 77 1 [(0,.agg t15)]) fun v16 h_34=>callN (call 52 [.int .i64 6,v16] h_34) fun r17 h_36=>obind (z75 r17) fun t17=>obind (z17 h_36 6 t17 (z7 h)) fun h_39=>obind (z18 h_39 6 (z7 h)) fun w2_42=>some (.ret (.agg w2_42),h_39)) (callN (call 56 [t0,.int .u8 63] h_29) fun r20 h_44=>obind (z23 r20) fun t20=>ifB t20 (obind (z18 h_44 6 (z7 h_5)) fun t21=>outK (zdb Pg h_44 77 1 [(0,.agg t21)]) fun v22 h_49=>callN (call 52 [.int .i64 7,v22] h_49) fun r23 h_51=>obind (z75 r23) fun t23=>obind (z17 h_51 6 t23 (z7 h)) fun h_54=>obind (z18 h_54 6 (z7 h)) fun w2_57=>some (.ret (.agg w2_57),h_54)) (obind (z18 h_44 6 (z7 h_5)) fun t24=>obind (z17 h_44 6 t24 (z7 h)) fun h_60=>obind (z18 h_60 6 (z7 h)) fun w2_63=>some (.ret (.agg w2_63),h_60))))
theorem z140{call:zd}(hc:SaysAll Pg call){n:Nat}{t0:AV}{h:AHeap}{rR:ARes}{hR:AHeap}(z:z1e call n t0 h=some (rR,hR)):Says Pg 60 [t0] h rR hR:=by
 unfold z1e at z;refine sO Tryd.func60 fun w0 m0=>?_;refine wW [(0,t0)] ?_;refine oG fun n1=>W.r ?_;refine oN 2 z fun h_2 z=>?_;refine oV [(0,t0),(2,z7 h)] (n1 ?_);refine oJ fun n4 p4=>W.r ?_;refine oA 4 t0 ?_;refine oCK hc (some 5) z (fun q=>p4 (Pf q)) fun r5 h_5 z=>?_
 replace z:=oS z;obtain⟨t5,c7,z⟩:=z
 have c7:=z50 c7;subst c7;refine oN 3 z fun h_8 z=>?_;refine oW 79 (.agg t5) z fun h_10 z=>?_;refine oV [(0,t0),(2,z7 h),(3,z7 h_5)] (n4 ?_);refine oH fun n12 q12=>?_;refine yd (by kernel_rfl) (fun K13 n13 s13 o13 q13 p13=>?_);refine oG fun n14=>W.r ?_;refine oA 7 t0 ?_;refine oCb hc 8 z fun t8 h_15 z=>?_;refine oA 6 (.bool t8) ?_;refine oV [(0,t0),(2,z7 h),(3,z7 h_5),(6,.bool t8)] (n14 ?_)
 cases t8 with
 |true=>
  refine oT z fun z=>?_;refine oG fun n18=>W.r ?_;refine oR 9 79 z fun t9 z=>?_;refine oK 10 z fun v10 h_20 z=>?_;refine oCa hc 11 z fun t11 h_22 z=>?_;refine oW 79 (.agg t11) z fun h_25 z=>?_;refine oV [(2,z7 h)] (n18 (oY (q13 (q12 ?_))));obtain⟨w2,e27,z⟩:=oS z;exact lZ z [.cell 2 79] [.agg w2] (rY e27 zf)
 |false=>
  refine oU z fun z=>?_;refine oG fun n28=>W.r ?_;refine oA 13 t0 ?_;refine oCb hc 14 z fun t14 h_29 z=>?_;refine oA 12 (.bool t14) ?_;refine oV [(0,t0),(2,z7 h),(3,z7 h_5),(12,.bool t14)] (n28 ?_)
  cases t14 with
  |true=>
   refine oT z fun z=>?_;refine oG fun n32=>W.r ?_;refine oR 15 79 z fun t15 z=>?_;refine oK 16 z fun v16 h_34 z=>?_;refine oCa hc 17 z fun t17 h_36 z=>?_;refine oW 79 (.agg t17) z fun h_39 z=>?_;refine oV [(2,z7 h)] (n32 (oY (q13 (q12 ?_))));obtain⟨w2_42,e41,z⟩:=oS z;exact lZ z [.cell 2 79] [.agg w2_42] (rY e41 zf)
  |false=>
   refine oU z fun z=>?_;refine oG fun n43=>W.r ?_;refine oA 19 t0 ?_;refine oCb hc 20 z fun t20 h_44 z=>?_;refine oA 18 (.bool t20) ?_;refine oV [(2,z7 h),(3,z7 h_5),(18,.bool t20)] (n43 ?_)
   cases t20 with
   |true=>
    refine oT z fun z=>?_;refine oG fun n47=>W.r ?_;refine oR 21 79 z fun t21 z=>?_;refine oK 22 z fun v22 h_49 z=>?_;refine oCa hc 23 z fun t23 h_51 z=>?_;refine oW 79 (.agg t23) z fun h_54 z=>?_;refine oV [(2,z7 h)] (n47 (oY (q13 (q12 ?_))));obtain⟨w2_57,e56,z⟩:=oS z;exact lZ z [.cell 2 79] [.agg w2_57] (rY e56 zf)
   |false=>
    refine oU z fun z=>?_;refine oZ (n13 (n12 ?_));refine oG fun n58=>W.r ?_;refine oR 24 79 z fun t24 z=>?_;refine oW 79 (.agg t24) z fun h_60 z=>?_;refine oV [(2,z7 h)] (n58 (oY ?_));obtain⟨w2_63,e62,z⟩:=oS z;exact lZ z [.cell 2 79] [.agg w2_63] (rY e62 zf)
noncomputable def z1c(call:zd)(_:Nat)(t0:AV)(h:AHeap):R:=lett (newH h 79 [.int .i64 0,.int .u64 0,.int .u64 0,.int .u64 0,.int .u64 0,.nsl]) fun h_2=>callK (call 51 [t0] h_2) fun r6 h_5=>obind (avInt .u8 r6) fun t6=>lett ((t6:Int) == 40) fun (t9:Bool)=>ifB t9 (callK (call 46 [t0] h_5) fun r11 h_14=>obind (z75 r11) fun t11=>lett (newH h_14 79 [.int .i64 0,.int .u64 0,.int .u64 0,.int .u64 0,.int .u64 0,.nsl]) fun h_17=>obind (z17 h_17 6 t11 (z7 h_14)) fun h_19=>callK (call 62 [t0,.int .u8 41] h_19) fun _ h_22=>obind (z18 h_22 6 (z7 h_14)) fun t14=>obind (z17 h_22 6 t14 (z7 h)) fun h_26=>obind (z18 h_26 6 (z7 h)) fun w2=>some (.ret (.agg w2),h_26)) (lett ((t6:Int) == 46) fun (t16:Bool)=>ifB t16 (callN (call 53 [] h_5) fun r17 h_34=>obind (z75 r17) fun t17=>obind (z17 h_34 6 t17 (z7 h)) fun h_37=>obind (z18 h_37 6 (z7 h)) fun w2_40=>some (.ret (.agg w2_40),h_37)) (lett ((t6:Int) == 91) fun (t19:Bool)=>ifB t19 (callK (call 63 [t0] h_5) fun r21 h_44=>obind (z75 r21) fun t21=>obind (z252 Pg 79 [(0,.int .i64 2),(1,.agg t21)]) fun t22=>obind (z17 h_44 6 t22 (z7 h)) fun h_48=>obind (z18 h_48 6 (z7 h)) fun w2_51=>some (.ret (.agg w2_51),h_48)) (lett ((t6:Int) == 92) fun (t24:Bool)=>ifB t24 (callK (call 51 [t0] h_5) fun r26 h_56=>obind (avInt .u8 r26) fun t26=>callN (call 54 [.int .u8 t26] h_56) fun r27 h_59=>obind (z75 r27) fun t27=>obind (z17 h_59 6 t27 (z7 h)) fun h_62=>obind (z18 h_62 6 (z7 h)) fun w2_65=>some (.ret (.agg w2_65),h_62)) (lett ((t6:Int) == 124) fun (t29:Bool)=>lett (fun (t28:Bool) (h_71:AHeap)=>lett (fun (h_73:AHeap)=>callN (call 54 [.int .u8 t6] h_73) fun r38 h_75=>obind (z75 r38) fun t38=>obind (z17 h_75 6 t38 (z7 h)) fun h_78=>obind (z18 h_78 6 (z7 h)) fun w2_81=>some (.ret (.agg w2_81),h_78)) fun k72=>ifB t28 (callK (call 64 [t0] h_71) fun _ h_82=>k72 h_82) (k72 h_71)) fun k70=>ifB t29 (k70 true h_5) (lett ((t6:Int) == 41) fun (t30:Bool)=>lett (fun (t28_88:Bool) (h_89:AHeap)=>k70 t28_88 h_89) fun k87=>ifB t30 (k87 true h_5) (lett ((t6:Int) == 42) fun (t31:Bool)=>lett (fun (t28_93:Bool) (h_94:AHeap)=>k87 t28_93 h_94) fun k92=>ifB t31 (k92 true h_5) (lett ((t6:Int) == 43) fun (t32:Bool)=>lett (fun (t28_98:Bool) (h_99:AHeap)=>k92 t28_98 h_99) fun k97=>ifB t32 (k97 true h_5) (lett ((t6:Int) == 63) fun (t33:Bool)=>lett (fun (t28_103:Bool) (h_104:AHeap)=>k97 t28_103 h_104) fun k102=>ifB t33 (k102 true h_5) (lett ((t6:Int) == 93) fun (t34:Bool)=>k102 t34 h_5)))))))))
theorem z1c1{call:zd}(hc:SaysAll Pg call){n:Nat}{t0:AV}{h:AHeap}{rR:ARes}{hR:AHeap}(z:z1c call n t0 h=some (rR,hR)):Says Pg 61 [t0] h rR hR:=by
 unfold z1c at z;refine sO Tryd.func61 fun w0 m0=>?_;refine wW [(0,t0)] ?_;refine oG fun n1=>W.r ?_;refine oN 2 z fun h_2 z=>?_;refine oV [(0,t0),(2,z7 h)] (n1 ?_);refine oJ fun n4 p4=>W.r ?_;refine oA 5 t0 ?_;refine oCK hc (some 6) z (fun q=>p4 (Pf q)) fun r6 h_5 z=>?_
 replace z:=oS z;obtain⟨t6,c7,z⟩:=z
 have c7:=z1a c7;subst c7;refine oA 3 (.int .u8 t6) ?_;refine oV [(0,t0),(2,z7 h),(3,.int .u8 t6)] (n4 ?_);refine W.s (fun _ n8 _ q8 p8=>?_);refine oG fun n9=>W.r ?_;refine oA 7 (.int .u8 t6) ?_;refine oV [(0,t0),(2,z7 h),(3,.int .u8 t6),(7,.int .u8 t6)] (n9 ?_);refine yd (by kernel_rfl) (fun K10 n10 s10 o10 q10 p10=>?_);refine oG fun n11=>W.r ?_;refine oB 9 z fun t9 z=>?_;refine oA 8 (.bool t9) ?_;refine oV [(0,t0),(2,z7 h),(3,.int .u8 t6),(7,.int .u8 t6),(8,.bool t9)] (n11 ?_)
 cases t9 with
 |true=>
  refine oT z fun z=>?_;refine oJ fun n13 p13=>W.r ?_;refine oA 10 t0 ?_;refine oCK hc (some 11) z (fun q=>p13 (p10 (p8 (Pf q)))) fun r11 h_14 z=>?_
  replace z:=oS z;obtain⟨t11,c16,z⟩:=z
  have c16:=z50 c16;subst c16;refine oN 4 z fun h_17 z=>?_;refine oW 79 (.agg t11) z fun h_19 z=>?_;refine oV [(0,t0),(2,z7 h),(4,z7 h_14)] (n13 ?_);refine oJ fun n21 p21=>W.r ?_;refine oA 12 t0 ?_;refine oCK hc (some 13) z (fun q=>p21 (p10 (p8 (Pf q)))) fun r13 h_22 z=>?_;refine oV [(2,z7 h),(4,z7 h_14)] (n21 ?_);refine oG fun n24=>W.r ?_;refine oR 14 79 z fun t14 z=>?_;refine oW 79 (.agg t14) z fun h_26 z=>?_;refine oV [(2,z7 h)] (n24 (oY (q10 (q8 ?_))));obtain⟨w2,e28,z⟩:=oS z;exact lZ z [.cell 2 79] [.agg w2] (rY e28 zf)
 |false=>
  refine oU z fun z=>?_;refine oG fun n31=>W.r ?_;refine oB 16 z fun t16 z=>?_;refine oA 15 (.bool t16) ?_;refine oV [(0,t0),(2,z7 h),(3,.int .u8 t6),(7,.int .u8 t6),(15,.bool t16)] (n31 ?_)
  cases t16 with
  |true=>
   refine oT z fun z=>?_;refine oG fun n33=>W.r ?_;refine oCa hc 17 z fun t17 h_34 z=>?_;refine oW 79 (.agg t17) z fun h_37 z=>?_;refine oV [(2,z7 h)] (n33 (oY (q10 (q8 ?_))));obtain⟨w2_40,e39,z⟩:=oS z;exact lZ z [.cell 2 79] [.agg w2_40] (rY e39 zf)
  |false=>
   refine oU z fun z=>?_;refine oG fun n41=>W.r ?_;refine oB 19 z fun t19 z=>?_;refine oA 18 (.bool t19) ?_;refine oV [(0,t0),(2,z7 h),(3,.int .u8 t6),(7,.int .u8 t6),(18,.bool t19)] (n41 ?_)
   cases t19 with
   |true=>
    refine oT z fun z=>?_;refine oJ fun n43 p43=>W.r ?_;refine oA 20 t0 ?_;refine oCK hc (some 21) z (fun q=>p43 (p10 (p8 (Pf q)))) fun r21 h_44 z=>?_
    replace z:=oS z;obtain⟨t21,c46,z⟩:=z
    have c46:=z50 c46;subst c46;obtain⟨t22,e47,z⟩:=oS z;refine WL.val (d:=(some 22)) (v:=.agg t22) (h':=h_44) (by kernel_rfl) (by kernel_rfl) (z1b7 (by kernel_rfl) e47) ?_;refine oW 79 (.agg t22) z fun h_48 z=>?_;refine oV [(2,z7 h)] (n43 (oY (q10 (q8 ?_))));obtain⟨w2_51,e50,z⟩:=oS z;exact lZ z [.cell 2 79] [.agg w2_51] (rY e50 zf)
   |false=>
    refine oU z fun z=>?_;refine oG fun n53=>W.r ?_;refine oB 24 z fun t24 z=>?_;refine oA 23 (.bool t24) ?_;refine oV [(0,t0),(2,z7 h),(3,.int .u8 t6),(7,.int .u8 t6),(23,.bool t24)] (n53 ?_)
    cases t24 with
    |true=>
     refine oT z fun z=>?_;refine oJ fun n55 p55=>W.r ?_;refine oA 25 t0 ?_;refine oCK hc (some 26) z (fun q=>p55 (p10 (p8 (Pf q)))) fun r26 h_56 z=>?_
     replace z:=oS z;obtain⟨t26,c58,z⟩:=z
     have c58:=z1a c58;subst c58;refine oCa hc 27 z fun t27 h_59 z=>?_;refine oW 79 (.agg t27) z fun h_62 z=>?_;refine oV [(2,z7 h)] (n55 (oY (q10 (q8 ?_))));obtain⟨w2_65,e64,z⟩:=oS z;exact lZ z [.cell 2 79] [.agg w2_65] (rY e64 zf)
    |false=>
     refine oU z fun z=>?_;refine W.s (fun K67 n67 _ _ _=>?_);refine oG fun n68=>W.r ?_;refine oB 29 z fun t29 z=>?_;refine oA 28 (.bool t29) ?_;refine oV [(0,t0),(2,z7 h),(3,.int .u8 t6),(7,.int .u8 t6),(28,.bool t29)] (n68 ?_);obtain⟨k70,e70,z⟩:=lS z
     have J70:∀(t28:Bool) (h_71:AHeap),k70 t28 h_71=some (rR,hR)→Go w0 m0 (Func.ntmps Tryd.f61) (K67 .normal) [(0,t0),(2,z7 h),(3,.int .u8 t6),(28,.bool t28)] [] h_71:=by
      intro t28 h_71 z;rw[e70] at z;refine n67 ?_;obtain⟨k72,e72,z⟩:=lS z
      have J72:∀(h_73:AHeap),k72 h_73=some (rR,hR)→Go w0 m0 (Func.ntmps Tryd.f61) (K10 .normal) [(2,z7 h),(3,.int .u8 t6)] [] h_73:=by
       intro h_73 z;rw[e72] at z;refine n10 (n8 ?_);refine oG fun n74=>W.r ?_;refine oA 37 (.int .u8 t6) ?_;refine oCa hc 38 z fun t38 h_75 z=>?_;refine oW 79 (.agg t38) z fun h_78 z=>?_;refine oV [(2,z7 h)] (n74 (oY ?_));obtain⟨w2_81,e80,z⟩:=oS z;exact lZ z [.cell 2 79] [.agg w2_81] (rY e80 zf)
      cases t28 with
      |true=>
       refine oT z fun z=>?_;refine W.r ?_;refine oA 35 t0 ?_;refine oCK hc (some 36) z (fun q=>p10 (p8 (Pf q))) fun r36 h_82 z=>?_;refine oV [(2,z7 h),(3,.int .u8 t6)] ?_;exact gW _ (J72 _ z)
      |false=>
       refine oU z fun z=>?_;refine oZ ?_;exact gW _ (J72 _ z)
     cases t29 with
     |true=>
      refine oT z fun z=>?_;refine oZ ?_;exact gW _ (J70 _ _ z)
     |false=>
      refine oU z fun z=>?_;refine oG fun n85=>W.r ?_;refine oB 30 z fun t30 z=>?_;refine oA 28 (.bool t30) ?_;refine oV [(0,t0),(2,z7 h),(3,.int .u8 t6),(7,.int .u8 t6),(28,.bool t30)] (n85 ?_);obtain⟨k87,e87,z⟩:=lS z
      have J87:∀(t28_88:Bool) (h_89:AHeap),k87 t28_88 h_89=some (rR,hR)→Go w0 m0 (Func.ntmps Tryd.f61) (K67 .normal) [(0,t0),(2,z7 h),(3,.int .u8 t6),(28,.bool t28_88)] [] h_89:=by
       intro t28_88 h_89 z;rw[e87] at z;exact gW _ (J70 _ _ z)
      cases t30 with
      |true=>
       refine oT z fun z=>?_;refine oZ ?_;exact gW _ (J87 _ _ z)
      |false=>
       refine oU z fun z=>?_;refine oG fun n90=>W.r ?_;refine oB 31 z fun t31 z=>?_;refine oA 28 (.bool t31) ?_;refine oV [(0,t0),(2,z7 h),(3,.int .u8 t6),(7,.int .u8 t6),(28,.bool t31)] (n90 ?_);obtain⟨k92,e92,z⟩:=lS z
       have J92:∀(t28_93:Bool) (h_94:AHeap),k92 t28_93 h_94=some (rR,hR)→Go w0 m0 (Func.ntmps Tryd.f61) (K67 .normal) [(0,t0),(2,z7 h),(3,.int .u8 t6),(28,.bool t28_93)] [] h_94:=by
        intro t28_93 h_94 z;rw[e92] at z;exact gW _ (J87 _ _ z)
       cases t31 with
       |true=>
        refine oT z fun z=>?_;refine oZ ?_;exact gW _ (J92 _ _ z)
       |false=>
        refine oU z fun z=>?_;refine oG fun n95=>W.r ?_;refine oB 32 z fun t32 z=>?_;refine oA 28 (.bool t32) ?_;refine oV [(0,t0),(2,z7 h),(3,.int .u8 t6),(7,.int .u8 t6),(28,.bool t32)] (n95 ?_);obtain⟨k97,e97,z⟩:=lS z
        have J97:∀(t28_98:Bool) (h_99:AHeap),k97 t28_98 h_99=some (rR,hR)→Go w0 m0 (Func.ntmps Tryd.f61) (K67 .normal) [(0,t0),(2,z7 h),(3,.int .u8 t6),(28,.bool t28_98)] [] h_99:=by
         intro t28_98 h_99 z;rw[e97] at z;exact gW _ (J92 _ _ z)
        cases t32 with
        |true=>
         refine oT z fun z=>?_;refine oZ ?_;exact gW _ (J97 _ _ z)
        |false=>
         refine oU z fun z=>?_;refine oG fun n100=>W.r ?_;refine oB 33 z fun t33 z=>?_;refine oA 28 (.bool t33) ?_;refine oV [(0,t0),(2,z7 h),(3,.int .u8 t6),(7,.int .u8 t6),(28,.bool t33)] (n100 ?_);obtain⟨k102,e102,z⟩:=lS z
         have J102:∀(t28_103:Bool) (h_104:AHeap),k102 t28_103 h_104=some (rR,hR)→Go w0 m0 (Func.ntmps Tryd.f61) (K67 .normal) [(0,t0),(2,z7 h),(3,.int .u8 t6),(28,.bool t28_103)] [] h_104:=by
          intro t28_103 h_104 z;rw[e102] at z;exact gW _ (J97 _ _ z)
         cases t33 with
         |true=>
          refine oT z fun z=>?_;refine oZ ?_;exact gW _ (J102 _ _ z)
         |false=>
          refine oU z fun z=>?_;refine W.r ?_;refine oB 34 z fun t34 z=>?_;refine oA 28 (.bool t34) ?_;refine oV [(0,t0),(2,z7 h),(3,.int .u8 t6),(28,.bool t34)] ?_;exact gW _ (J102 _ _ z)
noncomputable def z33(call:zd)(t0:AV)(h_5:AHeap)(k16:AHeap→R)(self:AHeap→R)(h_48:AHeap):R:=callN (call 56 [t0,.int .u8 93] h_48) fun r11 h_51=>obind (z23 r11) fun t11=>lett (!t11) fun (t12:Bool)=>ifB t12 (callK (call 65 [t0,(z7 h_5)] h_51) fun _ h_56=>self h_56) (k16 h_51)
noncomputable def z51(call:zd)(t0:AV)(h_5:AHeap)(k16:AHeap→R):Nat→AHeap→R:=z103 (fun _=>none) (z33 call t0 h_5 k16)
theorem z5f(call:zd)(t0:AV)(h_5:AHeap)(k16:AHeap→R)(m:Nat):z51 call t0 h_5 k16 (m+1)=z33 call t0 h_5 k16 (z51 call t0 h_5 k16 m):=rfl
noncomputable def z46(h_5:AHeap)(k29:AHeap→R)(self:Int→AHeap→R)(t16:Int)(h_32:AHeap):R:=lett (decide (t16<4)) fun (t17:Bool)=>ifB t17 (obind (z31a 4 1 (z7 h_5) t16) fun t20=>obind (z9 h_32 t20) fun v21=>obind (avInt .u64 v21) fun t21=>lett (xorI .u64 t21 18446744073709551615) fun (t22:Int)=>obind (z31a 4 1 (z7 h_5) t16) fun t23=>obind (z17 h_32 1 [.int .u64 t22] t23) fun h_44=>lett (IntKind.i64.wrap (t16+1)) fun (t24:Int)=>self t24 h_44) (k29 h_32)
noncomputable def z52(h_5:AHeap)(k29:AHeap→R):Nat→Int→AHeap→R:=z103 (fun _ _=>none) (z46 h_5 k29)
theorem z91(h_5:AHeap)(k29:AHeap→R)(m:Nat):z52 h_5 k29 (m+1)=z46 h_5 k29 (z52 h_5 k29 m):=rfl
noncomputable def z3b(call:zd)(n:Nat)(t0:AV)(h:AHeap):R:=lett (newH h 76 [.int .u64 0,.int .u64 0,.int .u64 0,.int .u64 0]) fun h_2=>callN (call 56 [t0,.int .u8 94] h_2) fun r7 h_5=>obind (z23 r7) fun t7=>lett (newH h_5 76 [.int .u64 0,.int .u64 0,.int .u64 0,.int .u64 0]) fun h_9=>callK (call 65 [t0,(z7 h_5)] h_9) fun _ h_12=>lett (fun (h_17:AHeap)=>lett (fun (h_21:AHeap)=>obind (z18 h_21 4 (z7 h_5)) fun t25=>obind (z17 h_21 4 t25 (z7 h)) fun h_24=>obind (z18 h_24 4 (z7 h)) fun w2=>some (.ret (.agg w2),h_24)) fun k20=>ifB t7 (lett (fun (h_30:AHeap)=>k20 h_30) fun k29=>z52 h_5 k29 n 0 h_17) (k20 h_17)) fun k16=>z51 call t0 h_5 k16 n h_12
theorem z17e{call:zd}(hc:SaysAll Pg call){n:Nat}{t0:AV}{h:AHeap}{rR:ARes}{hR:AHeap}(z:z3b call n t0 h=some (rR,hR)):Says Pg 63 [t0] h rR hR:=by
 unfold z3b at z;refine sO Tryd.func63 fun w0 m0=>?_;refine wW [(0,t0)] ?_;refine oG fun n1=>W.r ?_;refine oN 2 z fun h_2 z=>?_;refine oV [(0,t0),(2,z7 h)] (n1 ?_);refine oG fun n4=>W.r ?_;refine oA 6 t0 ?_;refine oCb hc 7 z fun t7 h_5 z=>?_;refine oA 3 (.bool t7) ?_;refine oV [(0,t0),(2,z7 h),(3,.bool t7)] (n4 ?_);refine oG fun n8=>W.r ?_;refine oN 4 z fun h_9 z=>?_;refine oV [(0,t0),(2,z7 h),(3,.bool t7),(4,z7 h_5)] (n8 ?_);refine oJ fun n11 p11=>W.r ?_;refine oA 8 t0 ?_;refine oCK hc (some 9) z (fun q=>p11 (Pf q)) fun r9 h_12 z=>?_;refine oV [(0,t0),(2,z7 h),(3,.bool t7),(4,z7 h_5)] (n11 ?_);refine W.s (fun K14 n14 _ _ p14=>?_);obtain⟨k16,e16,z⟩:=lS z
 have J16:∀(h_17:AHeap),k16 h_17=some (rR,hR)→Go w0 m0 (Func.ntmps Tryd.f63) (K14 .normal) [(2,z7 h),(3,.bool t7),(4,z7 h_5)] [] h_17:=by
  intro h_17 z;rw[e16] at z;refine n14 ?_;refine W.s (fun K18 n18 _ _ _=>?_);refine oG fun n19=>W.r ?_;refine oA 15 (.bool t7) ?_;refine oV [(2,z7 h),(4,z7 h_5),(15,.bool t7)] (n19 ?_);obtain⟨k20,e20,z⟩:=lS z
  have J20:∀(h_21:AHeap),k20 h_21=some (rR,hR)→Go w0 m0 (Func.ntmps Tryd.f63) (K18 .normal) [(2,z7 h),(4,z7 h_5)] [] h_21:=by
   intro h_21 z;rw[e20] at z;refine n18 ?_;refine oG fun n22=>W.r ?_;refine oR 25 76 z fun t25 z=>?_;refine oW 76 (.agg t25) z fun h_24 z=>?_;refine oV [(2,z7 h)] (n22 (oY ?_));obtain⟨w2,e26,z⟩:=oS z;exact lZ z [.cell 2 76] [.agg w2] (rY e26 zf)
  cases t7 with
  |true=>
   refine oT z fun z=>?_;refine oG fun n27=>W.r ?_;refine oA 16 (.int .i64 0) ?_;refine oV [(2,z7 h),(4,z7 h_5),(16,.int .i64 0)] (n27 ?_);obtain⟨k29,e29,z⟩:=lS z
   have J29:∀(h_30:AHeap),k29 h_30=some (rR,hR)→Go w0 m0 (Func.ntmps Tryd.f63) (K18 .normal) [(2,z7 h),(4,z7 h_5)] [] h_30:=by
    intro h_30 z;rw[e29] at z;exact gW _ (J20 _ z)
   refine yd (by kernel_rfl) (fun K28 n28 s28 o28 q28 p28=>?_);refine y17 (by kernel_rfl) (fun I31 K31 b31 n31 e31 q31 p31=>?_)
   have L31:∀(m:Nat) (t16:Int) (h_32:AHeap),z52 h_5 k29 m t16 h_32=some (rR,hR)→Go w0 m0 (Func.ntmps Tryd.f63) I31 [(2,z7 h),(4,z7 h_5),(16,.int .i64 t16)] [] h_32:=by
    intro m
    induction m with
    |zero=>intro t16 h_32 z;cases z
    |succ m ih31=>
     intro t16 h_32 z;rw[z91] at z;unfold z46 at z;refine b31 ?_;refine oG fun n33=>W.r ?_;refine oB 17 z fun t17 z=>?_;refine oV [(2,z7 h),(4,z7 h_5),(16,.int .i64 t16),(17,.bool t17)] (n33 ?_);refine W.s (fun _ n35 e35 _ _=>?_)
     cases t17 with
     |true=>
      refine oT z fun z=>?_;refine oZ (n35 ?_);refine oG fun n36=>?_;refine yd (by kernel_rfl) (fun K37 n37 s37 o37 q37 p37=>?_);refine oG fun n38=>W.r ?_;refine oA 18 (.int .i64 t16) ?_;refine oA 5 (.int .i64 t16) ?_;refine oV [(2,z7 h),(4,z7 h_5),(5,.int .i64 t16),(16,.int .i64 t16)] (n38 (W.r ?_));refine oA 19 (.int .i64 t16) ?_;refine oQ 20 76 72 .i64 z fun t20 z=>?_;refine oLi 21 72 z fun t21 z=>?_;refine oI 22 .u64 z fun t22 z=>?_;refine oQ 23 76 72 .i64 z fun t23 z=>?_;refine oW 72 (.int .u64 t22) z fun h_44 z=>?_;refine oV [(2,z7 h),(4,z7 h_5),(16,.int .i64 t16)] (n37 (n36 (W.r ?_)));refine oI 24 .i64 z fun t24 z=>?_;refine oA 16 (.int .i64 t24) ?_;refine oV [(2,z7 h),(4,z7 h_5),(16,.int .i64 t24)] (n31 ?_);exact gW _ (ih31 _ _ z)
     |false=>
      refine oU z fun z=>?_;refine W.exit (by kernel_rfl) ?_;refine e35 (e31 ?_);refine s28 (by kernel_rfl) ?_;exact gW _ (J29 _ z)
   exact gW _ (L31 _ _ _ z)
  |false=>
   refine oU z fun z=>?_;refine oZ ?_;exact gW _ (J20 _ z)
 refine yd (by kernel_rfl) (fun K15 n15 s15 o15 q15 p15=>?_);refine y17 (by kernel_rfl) (fun I47 K47 b47 n47 e47 q47 p47=>?_)
 have L47:∀(m:Nat) (h_48:AHeap),z51 call t0 h_5 k16 m h_48=some (rR,hR)→Go w0 m0 (Func.ntmps Tryd.f63) I47 [(0,t0),(2,z7 h),(3,.bool t7),(4,z7 h_5)] [] h_48:=by
  intro m
  induction m with
  |zero=>intro h_48 z;cases z
  |succ m ih47=>
   intro h_48 z;rw[z5f] at z;unfold z33 at z;refine b47 ?_;refine W.s (fun _ n49 e49 _ _=>?_);refine oG fun n50=>W.r ?_;refine oA 10 t0 ?_;refine oCb hc 11 z fun t11 h_51 z=>?_;refine oB 12 z fun t12 z=>?_;refine oV [(0,t0),(2,z7 h),(3,.bool t7),(4,z7 h_5),(12,.bool t12)] (n50 ?_)
   cases t12 with
   |true=>
    refine oT z fun z=>?_;refine oZ (n49 ?_);refine yd (by kernel_rfl) (fun K55 n55 s55 o55 q55 p55=>?_);refine W.r ?_;refine oA 13 t0 ?_;refine oCK hc (some 14) z (fun q=>p55 (p47 (p15 (p14 (Pf q))))) fun r14 h_56 z=>?_;refine oV [(0,t0),(2,z7 h),(3,.bool t7),(4,z7 h_5)] (n55 (n47 ?_));exact gW _ (ih47 _ z)
   |false=>
    refine oU z fun z=>?_;refine W.exit (by kernel_rfl) ?_;refine e49 (e47 ?_);refine s15 (by kernel_rfl) ?_;exact gW _ (J16 _ z)
 exact gW _ (L47 _ _ z)
noncomputable def z29(call:zd)(_:Nat)(t0:AV)(t1:AV)(h:AHeap):R:=callK (call 66 [t0] h) fun r7 h_2=>obind (avInt .u8 r7) fun t7=>callN (call 56 [t0,.int .u8 45] h_2) fun r10 h_8=>obind (z23 r10) fun t10=>lett (fun (t5:Int) (h_12:AHeap)=>callN (call 58 [t1,.int .u8 t7,.int .u8 t5] h_12) fun _ h_13=>some (.ret (.tup []),h_13)) fun k11=>ifB t10 (callK (call 66 [t0] h_8) fun r12 h_16=>obind (avInt .u8 r12) fun t12=>lett (decide (t12<t7)) fun (t15:Bool)=>lett (fun (h_22:AHeap)=>k11 t12 h_22) fun k21=>ifB t15 (callK (call 64 [t0] h_16) fun _ h_23=>k21 h_23) (k21 h_16)) (k11 t7 h_8)
theorem z189{call:zd}(hc:SaysAll Pg call){n:Nat}{t0:AV}{t1:AV}{h:AHeap}{rR:ARes}{hR:AHeap}(z:z29 call n t0 t1 h=some (rR,hR)):Says Pg 65 [t0,t1] h rR hR:=by
 unfold z29 at z;refine sO Tryd.func65 fun w0 m0=>?_;refine wW [(0,t0),(1,t1)] ?_;refine oJ fun n1 p1=>W.r ?_;refine oA 6 t0 ?_;refine oCK hc (some 7) z (fun q=>p1 (Pf q)) fun r7 h_2 z=>?_
 replace z:=oS z;obtain⟨t7,c4,z⟩:=z
 have c4:=z1a c4;subst c4;refine oA 4 (.int .u8 t7) ?_;refine oV [(0,t0),(1,t1),(4,.int .u8 t7)] (n1 ?_);refine oG fun n5=>W.r ?_;refine oA 8 (.int .u8 t7) ?_;refine oA 5 (.int .u8 t7) ?_;refine oV [(0,t0),(1,t1),(4,.int .u8 t7),(5,.int .u8 t7)] (n5 ?_);refine W.s (fun K6 n6 _ _ p6=>?_);refine oG fun n7=>W.r ?_;refine oA 9 t0 ?_;refine oCb hc 10 z fun t10 h_8 z=>?_;refine oV [(0,t0),(1,t1),(4,.int .u8 t7),(5,.int .u8 t7),(10,.bool t10)] (n7 ?_);obtain⟨k11,e11,z⟩:=lS z
 have J11:∀(t5:Int) (h_12:AHeap),k11 t5 h_12=some (rR,hR)→Go w0 m0 (Func.ntmps Tryd.f65) (K6 .normal) [(1,t1),(4,.int .u8 t7),(5,.int .u8 t5)] [] h_12:=by
  intro t5 h_12 z;rw[e11] at z;refine n6 (W.r ?_);refine oA 18 t1 ?_;refine oA 19 (.int .u8 t7) ?_;refine oA 20 (.int .u8 t5) ?_;refine oC hc (some 21) z fun r21 h_13 z=>?_;refine oV [] ?_;exact lY z [] [] zf
 cases t10 with
 |true=>
  refine oT z fun z=>?_;refine oJ fun n15 p15=>W.r ?_;refine oA 11 t0 ?_;refine oCK hc (some 12) z (fun q=>p15 (p6 (Pf q))) fun r12 h_16 z=>?_
  replace z:=oS z;obtain⟨t12,c18,z⟩:=z
  have c18:=z1a c18;subst c18;refine oA 5 (.int .u8 t12) ?_;refine oV [(0,t0),(1,t1),(4,.int .u8 t7),(5,.int .u8 t12)] (n15 ?_);refine oG fun n19=>W.r ?_;refine oA 13 (.int .u8 t12) ?_;refine oA 14 (.int .u8 t7) ?_;refine oB 15 z fun t15 z=>?_;refine oV [(0,t0),(1,t1),(4,.int .u8 t7),(5,.int .u8 t12),(15,.bool t15)] (n19 ?_);obtain⟨k21,e21,z⟩:=lS z
  have J21:∀(h_22:AHeap),k21 h_22=some (rR,hR)→Go w0 m0 (Func.ntmps Tryd.f65) (K6 .normal) [(1,t1),(4,.int .u8 t7),(5,.int .u8 t12)] [] h_22:=by
   intro h_22 z;rw[e21] at z;exact gW _ (J11 _ _ z)
  cases t15 with
  |true=>
   refine oT z fun z=>?_;refine W.r ?_;refine oA 16 t0 ?_;refine oCK hc (some 17) z (fun q=>p6 (Pf q)) fun r17 h_23 z=>?_;refine oV [(1,t1),(4,.int .u8 t7),(5,.int .u8 t12)] ?_;exact gW _ (J21 _ z)
  |false=>
   refine oU z fun z=>?_;refine oZ ?_;exact gW _ (J21 _ z)
 |false=>
  refine oU z fun z=>?_;refine oZ ?_;exact gW _ (J11 _ _ z)
noncomputable def z1f(call:zd)(_:Nat)(t0:AV)(h:AHeap):R:=callK (call 51 [t0] h) fun r5 h_3=>obind (avInt .u8 r5) fun t5=>lett ((t5:Int) == 92) fun (t8:Bool)=>ifB t8 (callK (call 51 [t0] h_3) fun r10 h_12=>obind (avInt .u8 r10) fun t10=>some (.ret (.int .u8 t10),h_12)) (lett ((t5:Int) == 91) fun (t12:Bool)=>lett (fun (t11:Bool) (h_20:AHeap)=>lett (fun (h_22:AHeap)=>some (.ret (.int .u8 t5),h_22)) fun k21=>ifB t11 (callK (call 64 [t0] h_20) fun _ h_24=>k21 h_24) (k21 h_20)) fun k19=>ifB t12 (k19 true h_3) (lett ((t5:Int) == 93) fun (t13:Bool)=>lett (fun (t11_30:Bool) (h_31:AHeap)=>k19 t11_30 h_31) fun k29=>ifB t13 (k29 true h_3) (lett ((t5:Int) == 94) fun (t14:Bool)=>lett (fun (t11_35:Bool) (h_36:AHeap)=>k29 t11_35 h_36) fun k34=>ifB t14 (k34 true h_3) (lett ((t5:Int) == 45) fun (t15:Bool)=>k34 t15 h_3))))
theorem z14d{call:zd}(hc:SaysAll Pg call){n:Nat}{t0:AV}{h:AHeap}{rR:ARes}{hR:AHeap}(z:z1f call n t0 h=some (rR,hR)):Says Pg 66 [t0] h rR hR:=by
 unfold z1f at z;refine sO Tryd.func66 fun w0 m0=>?_;refine wW [(0,t0)] ?_;refine oG fun n1=>W.r ?_;refine oA 2 (.int .u8 0) ?_;refine oV [(0,t0)] (n1 ?_);refine oJ fun n2 p2=>W.r ?_;refine oA 4 t0 ?_;refine oCK hc (some 5) z (fun q=>p2 (Pf q)) fun r5 h_3 z=>?_
 replace z:=oS z;obtain⟨t5,c5,z⟩:=z
 have c5:=z1a c5;subst c5;refine oA 3 (.int .u8 t5) ?_;refine oV [(0,t0),(3,.int .u8 t5)] (n2 ?_);refine W.s (fun _ n6 _ q6 p6=>?_);refine oG fun n7=>W.r ?_;refine oA 6 (.int .u8 t5) ?_;refine oV [(0,t0),(3,.int .u8 t5),(6,.int .u8 t5)] (n7 ?_);refine yd (by kernel_rfl) (fun K8 n8 s8 o8 q8 p8=>?_);refine oG fun n9=>W.r ?_;refine oB 8 z fun t8 z=>?_;refine oA 7 (.bool t8) ?_;refine oV [(0,t0),(3,.int .u8 t5),(6,.int .u8 t5),(7,.bool t8)] (n9 ?_)
 cases t8 with
 |true=>
  refine oT z fun z=>?_;refine oJ fun n11 p11=>W.r ?_;refine oA 9 t0 ?_;refine oCK hc (some 10) z (fun q=>p11 (p8 (p6 (Pf q)))) fun r10 h_12 z=>?_
  replace z:=oS z;obtain⟨t10,c14,z⟩:=z
  have c14:=z1a c14;subst c14;refine oA 2 (.int .u8 t10) ?_;refine oV [(2,.int .u8 t10)] (n11 (oY (q8 (q6 ?_))));exact lZ z [.tmp 2] [.int .u8 t10] (rT zf)
 |false=>
  refine oU z fun z=>?_;refine W.s (fun K16 n16 _ _ _=>?_);refine oG fun n17=>W.r ?_;refine oB 12 z fun t12 z=>?_;refine oA 11 (.bool t12) ?_;refine oV [(0,t0),(3,.int .u8 t5),(6,.int .u8 t5),(11,.bool t12)] (n17 ?_);obtain⟨k19,e19,z⟩:=lS z
  have J19:∀(t11:Bool) (h_20:AHeap),k19 t11 h_20=some (rR,hR)→Go w0 m0 (Func.ntmps Tryd.f66) (K16 .normal) [(0,t0),(3,.int .u8 t5),(11,.bool t11)] [] h_20:=by
   intro t11 h_20 z;rw[e19] at z;refine n16 ?_;obtain⟨k21,e21,z⟩:=lS z
   have J21:∀(h_22:AHeap),k21 h_22=some (rR,hR)→Go w0 m0 (Func.ntmps Tryd.f66) (K8 .normal) [(3,.int .u8 t5)] [] h_22:=by
    intro h_22 z;rw[e21] at z;refine n8 (n6 ?_);refine oG fun n23=>W.r ?_;refine oA 18 (.int .u8 t5) ?_;refine oA 2 (.int .u8 t5) ?_;refine oV [(2,.int .u8 t5)] (n23 (oY ?_));exact lZ z [.tmp 2] [.int .u8 t5] (rT zf)
   cases t11 with
   |true=>
    refine oT z fun z=>?_;refine W.r ?_;refine oA 16 t0 ?_;refine oCK hc (some 17) z (fun q=>p8 (p6 (Pf q))) fun r17 h_24 z=>?_;refine oV [(3,.int .u8 t5)] ?_;exact gW _ (J21 _ z)
   |false=>
    refine oU z fun z=>?_;refine oZ ?_;exact gW _ (J21 _ z)
  cases t12 with
  |true=>
   refine oT z fun z=>?_;refine oZ ?_;exact gW _ (J19 _ _ z)
  |false=>
   refine oU z fun z=>?_;refine oG fun n27=>W.r ?_;refine oB 13 z fun t13 z=>?_;refine oA 11 (.bool t13) ?_;refine oV [(0,t0),(3,.int .u8 t5),(6,.int .u8 t5),(11,.bool t13)] (n27 ?_);obtain⟨k29,e29,z⟩:=lS z
   have J29:∀(t11_30:Bool) (h_31:AHeap),k29 t11_30 h_31=some (rR,hR)→Go w0 m0 (Func.ntmps Tryd.f66) (K16 .normal) [(0,t0),(3,.int .u8 t5),(11,.bool t11_30)] [] h_31:=by
    intro t11_30 h_31 z;rw[e29] at z;exact gW _ (J19 _ _ z)
   cases t13 with
   |true=>
    refine oT z fun z=>?_;refine oZ ?_;exact gW _ (J29 _ _ z)
   |false=>
    refine oU z fun z=>?_;refine oG fun n32=>W.r ?_;refine oB 14 z fun t14 z=>?_;refine oA 11 (.bool t14) ?_;refine oV [(0,t0),(3,.int .u8 t5),(6,.int .u8 t5),(11,.bool t14)] (n32 ?_);obtain⟨k34,e34,z⟩:=lS z
    have J34:∀(t11_35:Bool) (h_36:AHeap),k34 t11_35 h_36=some (rR,hR)→Go w0 m0 (Func.ntmps Tryd.f66) (K16 .normal) [(0,t0),(3,.int .u8 t5),(11,.bool t11_35)] [] h_36:=by
     intro t11_35 h_36 z;rw[e34] at z;exact gW _ (J29 _ _ z)
    cases t14 with
    |true=>
     refine oT z fun z=>?_;refine oZ ?_;exact gW _ (J34 _ _ z)
    |false=>
     refine oU z fun z=>?_;refine W.r ?_;refine oB 15 z fun t15 z=>?_;refine oA 11 (.bool t15) ?_;refine oV [(0,t0),(3,.int .u8 t5),(11,.bool t15)] ?_;exact gW _ (J34 _ _ z)
noncomputable def z94(t0:AV)(t2:Int)(k4:AHeap→R)(self:Int→AHeap→R)(t6:Int)(h_7:AHeap):R:=lett (IntKind.i64.wrap t2) fun (t11:Int)=>lett (decide (t6≤t11)) fun (t12:Bool)=>ifB t12 (obind (quoI .i64 t6 64) fun t17=>obind (z74 t0) fun t18=>obind (z31a 4 1 t18 t17) fun t19=>obind (z9 h_7 t19) fun v20=>obind (avInt .u64 v20) fun t20=>obind (remI .i64 t6 64) fun t22=>obind (shlI .u64 1 t22) fun t23=>lett (orI .u64 t20 t23) fun (t24:Int)=>obind (z74 t0) fun t25=>obind (z31a 4 1 t25 t17) fun t26=>obind (z17 h_7 1 [.int .u64 t24] t26) fun h_24=>lett (IntKind.i64.wrap (t6+1)) fun (t14:Int)=>self t14 h_24) (k4 h_7)
noncomputable def za1(t0:AV)(t2:Int)(k4:AHeap→R):Nat→Int→AHeap→R:=z103 (fun _ _=>none) (z94 t0 t2 k4)
theorem zf4(t0:AV)(t2:Int)(k4:AHeap→R)(m:Nat):za1 t0 t2 k4 (m+1)=z94 t0 t2 k4 (za1 t0 t2 k4 m):=rfl
noncomputable def zb1(_:zd)(n:Nat)(t0:AV)(t1:Int)(t2:Int)(h:AHeap):R:=lett (IntKind.i64.wrap t1) fun (t8:Int)=>lett (fun (h_5:AHeap)=>some (.ret (.tup []),h_5)) fun k4=>za1 t0 t2 k4 n t8 h
theorem z237{call:zd}(hc:SaysAll Pg call){n:Nat}{t0:AV}{t1:Int}{t2:Int}{h:AHeap}{rR:ARes}{hR:AHeap}(z:zb1 call n t0 t1 t2 h=some (rR,hR)):Says Pg 58 [t0,.int .u8 t1,.int .u8 t2] h rR hR:=by
 unfold zb1 at z;refine sO Tryd.func58 fun w0 m0=>?_;refine wW [(0,t0),(1,.int .u8 t1),(2,.int .u8 t2)] ?_;refine oG fun n1=>W.r ?_;refine oA 7 (.int .u8 t1) ?_;refine oI 8 .i64 z fun t8 z=>?_;refine oA 6 (.int .i64 t8) ?_;refine oV [(0,t0),(2,.int .u8 t2),(6,.int .i64 t8)] (n1 ?_);obtain⟨k4,e4,z⟩:=lS z
 have J4:∀(h_5:AHeap),k4 h_5=some (rR,hR)→Go w0 m0 (Func.ntmps Tryd.f58) (Fin Pg Tryd.f58 w0 m0 rR hR .normal) [] [] h_5:=by
  intro h_5 z;rw[e4] at z;exact lY z [] [] zf
 refine yd (by kernel_rfl) (fun K3 n3 s3 o3 q3 p3=>?_);refine y17 (by kernel_rfl) (fun I6 K6 b6 n6 e6 q6 p6=>?_)
 have L6:∀(m:Nat) (t6:Int) (h_7:AHeap),za1 t0 t2 k4 m t6 h_7=some (rR,hR)→Go w0 m0 (Func.ntmps Tryd.f58) I6 [(0,t0),(2,.int .u8 t2),(6,.int .i64 t6)] [] h_7:=by
  intro m
  induction m with
  |zero=>intro t6 h_7 z;cases z
  |succ m ih6=>
   intro t6 h_7 z;rw[zf4] at z;unfold z94 at z;refine b6 ?_;refine W.s (fun _ n8 e8 _ _=>?_);refine oG fun n9=>W.r ?_;refine oA 9 (.int .i64 t6) ?_;refine oA 10 (.int .u8 t2) ?_;refine oI 11 .i64 z fun t11 z=>?_;refine oB 12 z fun t12 z=>?_;refine oV [(0,t0),(2,.int .u8 t2),(6,.int .i64 t6),(12,.bool t12)] (n9 ?_)
   cases t12 with
   |true=>
    refine oT z fun z=>?_;refine oZ (n8 ?_);refine oG fun n12=>?_;refine yd (by kernel_rfl) (fun K13 n13 s13 o13 q13 p13=>?_);refine y1e (by kernel_rfl) (hc.ok w0) (plan:=[0,1,2,3,4,5,6,7,8,9,10,11,12]) (by kernel_rfl) (by kernel_rfl) (by kernel_rfl) ?_;refine WD.a 0 (some 15) t0 h_7 ?_;refine WD.a 0 (some 16) (.int .i64 t6) h_7 ?_;obtain⟨t17,e14,z⟩:=oS z;refine WD.b 0 (some 17) (.int .i64 t17) h_7 (z491 (P:=Pg) (h:=h_7) (t:=3) (lit:=true) e14) ?_;obtain⟨t18,e15,z⟩:=oS z;refine WD.b 0 (some 18) t18 h_7 (z2c (h:=h_7) e15) ?_;obtain⟨t19,e16,z⟩:=oS z;refine WD.b 0 (some 19) t19 h_7 (zf9 (P:=Pg) (h:=h_7) (t:=76) (e':=72) (k:=.i64) (by kernel_rfl) (by kernel_rfl) (by kernel_rfl) e16) ?_
    replace z:=oS z;obtain⟨v20,e17,z⟩:=z
    replace z:=oS z;obtain⟨t20,c18,z⟩:=z
    have c18:=z1a c18;subst c18;refine WD.b 1 (some 20) (.int .u64 t20) h_7 (z15 (P:=Pg) (h:=h_7) (t:=72) (by kernel_rfl) e17) ?_;refine WD.a 0 (some 21) (.int .i64 t6) h_7 ?_;obtain⟨t22,e19,z⟩:=oS z;refine WD.b 0 (some 22) (.int .i64 t22) h_7 (z48d (P:=Pg) (h:=h_7) (t:=3) (lit:=true) e19) ?_;obtain⟨t23,e20,z⟩:=oS z;refine WD.b 0 (some 23) (.int .u64 t23) h_7 (z3d1 (P:=Pg) (h:=h_7) (t:=72) (k':=.i64) (lit:=true) e20) ?_;obtain⟨t24,e21,z⟩:=lS z;refine WD.val (d:=(some 24)) (v:=.int .u64 t24) (h':=h_7) (by kernel_rfl) (by kernel_rfl) (z107 (AV.int .u64) e21 (by kernel_rfl)) (k:=0) (by kernel_rfl) (fun e=>absurd e (by decide)) (by decide) ?_;obtain⟨t25,e22,z⟩:=oS z;refine WD.b 0 (some 25) t25 h_7 (z2c (h:=h_7) e22) ?_;obtain⟨t26,e23,z⟩:=oS z;refine WD.b 0 (some 26) t26 h_7 (zf9 (P:=Pg) (h:=h_7) (t:=76) (e':=72) (k:=.i64) (by kernel_rfl) (by kernel_rfl) (by kernel_rfl) e23) ?_;obtain⟨h_24,e25,z⟩:=oS z;refine WD.eff (h':=h_24) (by kernel_rfl) (by kernel_rfl) (Eq.trans (by kernel_rfl) (z3d (P:=Pg) (h:=h_7) (t:=72) (v:=(.int .u64 t24)) (by kernel_rfl) (by kernel_rfl) e25)) (k:=2) (by kernel_rfl) (fun _=>(by kernel_rfl)) (by decide) ?_;refine WD.nil ?_;refine gW [(0,t0),(2,.int .u8 t2),(6,.int .i64 t6)] (n13 (n12 (W.r ?_)));refine oA 13 (.int .i64 t6) ?_;refine oI 14 .i64 z fun t14 z=>?_;refine oA 6 (.int .i64 t14) ?_;refine oV [(0,t0),(2,.int .u8 t2),(6,.int .i64 t14)] (n6 ?_);exact gW _ (ih6 _ _ z)
   |false=>
    refine oU z fun z=>?_;refine W.exit (by kernel_rfl) ?_;refine e8 (e6 ?_);refine s3 (by kernel_rfl) ?_;exact gW _ (J4 _ z)
 exact gW _ (L6 _ _ _ z)
noncomputable def z92(call:zd)(_:Nat)(t0:Int)(h:AHeap):R:=lett (newH h 79 [.int .i64 0,.int .u64 0,.int .u64 0,.int .u64 0,.int .u64 0,.nsl]) fun h_2=>lett (newH h_2 79 [.int .i64 0,.int .u64 0,.int .u64 0,.int .u64 0,.int .u64 0,.nsl]) fun h_5=>obind (z17 h_5 6 ([.int .i64 2,.int .u64 0,.int .u64 0,.int .u64 0,.int .u64 0,.nsl]:List AV) (z7 h_2)) fun h_7=>callN (call 58 [(AV.ptr (AHeap.next h_2) 1),.int .u8 t0,.int .u8 t0] h_7) fun _ h_10=>obind (z18 h_10 6 (z7 h_2)) fun t9=>obind (z17 h_10 6 t9 (z7 h)) fun h_14=>obind (z18 h_14 6 (z7 h)) fun w2=>some (.ret (.agg w2),h_14)
theorem z235{call:zd}(hc:SaysAll Pg call){n:Nat}{t0:Int}{h:AHeap}{rR:ARes}{hR:AHeap}(z:z92 call n t0 h=some (rR,hR)):Says Pg 54 [.int .u8 t0] h rR hR:=by
 unfold z92 at z;refine sO Tryd.func54 fun w0 m0=>?_;refine wW [(0,.int .u8 t0)] ?_;refine oG fun n1=>W.r ?_;refine oN 2 z fun h_2 z=>?_;refine oV [(0,.int .u8 t0),(2,z7 h)] (n1 ?_);refine oG fun n4=>W.r ?_;refine oA 4 (.agg ([.int .i64 2,.int .u64 0,.int .u64 0,.int .u64 0,.int .u64 0,.nsl]:List AV)) ?_;refine oN 3 z fun h_5 z=>?_;refine oW 79 (.agg ([.int .i64 2,.int .u64 0,.int .u64 0,.int .u64 0,.int .u64 0,.nsl]:List AV)) z fun h_7 z=>?_;refine oV [(0,.int .u8 t0),(2,z7 h),(3,z7 h_2)] (n4 ?_);refine oG fun n9=>W.r ?_;refine oA 5 (AV.ptr (AHeap.next h_2) 1) ?_;refine oA 6 (.int .u8 t0) ?_;refine oA 7 (.int .u8 t0) ?_;refine oC hc (some 8) z fun r8 h_10 z=>?_;refine oV [(2,z7 h),(3,z7 h_2)] (n9 ?_);refine oG fun n12=>W.r ?_;refine oR 9 79 z fun t9 z=>?_;refine oW 79 (.agg t9) z fun h_14 z=>?_;refine oV [(2,z7 h)] (n12 (oY ?_));obtain⟨w2,e16,z⟩:=oS z;exact lZ z [.cell 2 79] [.agg w2] (rY e16 zf)
noncomputable def z93(call:zd)(_:Nat)(h:AHeap):R:=lett (newH h 79 [.int .i64 0,.int .u64 0,.int .u64 0,.int .u64 0,.int .u64 0,.nsl]) fun h_2=>lett (newH h_2 79 [.int .i64 0,.int .u64 0,.int .u64 0,.int .u64 0,.int .u64 0,.nsl]) fun h_5=>obind (z17 h_5 6 ([.int .i64 2,.int .u64 0,.int .u64 0,.int .u64 0,.int .u64 0,.nsl]:List AV) (z7 h_2)) fun h_7=>callN (call 58 [(AV.ptr (AHeap.next h_2) 1),.int .u8 0,.int .u8 255] h_7) fun _ h_10=>obind (z18 h_10 6 (z7 h_2)) fun t5=>obind (z17 h_10 6 t5 (z7 h)) fun h_14=>obind (z18 h_14 6 (z7 h)) fun w0=>some (.ret (.agg w0),h_14)
theorem z236{call:zd}(hc:SaysAll Pg call){n:Nat}{h:AHeap}{rR:ARes}{hR:AHeap}(z:z93 call n h=some (rR,hR)):Says Pg 53 [] h rR hR:=by
 unfold z93 at z;refine sO Tryd.func53 fun w0 m0=>?_;refine wW [] ?_;refine oG fun n1=>W.r ?_;refine oN 0 z fun h_2 z=>?_;refine oV [(0,z7 h)] (n1 ?_);refine oG fun n4=>W.r ?_;refine oA 2 (.agg ([.int .i64 2,.int .u64 0,.int .u64 0,.int .u64 0,.int .u64 0,.nsl]:List AV)) ?_;refine oN 1 z fun h_5 z=>?_;refine oW 79 (.agg ([.int .i64 2,.int .u64 0,.int .u64 0,.int .u64 0,.int .u64 0,.nsl]:List AV)) z fun h_7 z=>?_;refine oV [(0,z7 h),(1,z7 h_2)] (n4 ?_);refine oG fun n9=>W.r ?_;refine oA 3 (AV.ptr (AHeap.next h_2) 1) ?_;refine oC hc (some 4) z fun r4 h_10 z=>?_;refine oV [(0,z7 h),(1,z7 h_2)] (n9 ?_);refine oG fun n12=>W.r ?_;refine oR 5 79 z fun t5 z=>?_;refine oW 79 (.agg t5) z fun h_14 z=>?_;refine oV [(0,z7 h)] (n12 (oY ?_));obtain⟨w0,e16,z⟩:=oS z;exact lZ z [.cell 0 79] [.agg w0] (rY e16 zf)
noncomputable def z108(_:zd)(_:Nat)(t0:Int)(t1:AV)(h:AHeap):R:=lett (newH h 79 [.int .i64 0,.int .u64 0,.int .u64 0,.int .u64 0,.int .u64 0,.nsl]) fun h_2=>obind (z252 Pg 79 [(0,.int .i64 t0),(2,t1)]) fun t7=>obind (z17 h_2 6 t7 (z7 h)) fun h_6=>obind (z18 h_6 6 (z7 h)) fun w4=>some (.ret (.agg w4),h_6)
theorem z2b9{call:zd}(_:SaysAll Pg call){n:Nat}{t0:Int}{t1:AV}{h:AHeap}{rR:ARes}{hR:AHeap}(z:z108 call n t0 t1 h=some (rR,hR)):Says Pg 52 [.int .i64 t0,t1] h rR hR:=by
 unfold z108 at z;refine sO Tryd.func52 fun w0 m0=>?_;refine wW [(0,.int .i64 t0),(1,t1)] ?_;refine oG fun n1=>W.r ?_;refine oN 4 z fun h_2 z=>?_;refine oV [(0,.int .i64 t0),(1,t1),(4,z7 h)] (n1 ?_);refine oG fun n4=>W.r ?_;refine oA 5 (.int .i64 t0) ?_;refine oA 6 t1 ?_;obtain⟨t7,e5,z⟩:=oS z;refine WL.val (d:=(some 7)) (v:=.agg t7) (h':=h_2) (by kernel_rfl) (by kernel_rfl) (z1b7 (by kernel_rfl) e5) ?_;refine oW 79 (.agg t7) z fun h_6 z=>?_;refine oV [(4,z7 h)] (n4 (oY ?_));obtain⟨w4,e8,z⟩:=oS z;exact lZ z [.cell 4 79] [.agg w4] (rY e8 zf)
noncomputable def za0(call:zd)(_:Nat)(t0:AV)(h:AHeap):R:=lett (newH h 79 [.int .i64 0,.int .u64 0,.int .u64 0,.int .u64 0,.int .u64 0,.nsl]) fun h_2=>obind (z153 t0) fun t4=>lett ((t4:Int) == 0) fun (t6:Bool)=>ifB t6 (obind (z17 h_2 6 ([.int .i64 1,.int .u64 0,.int .u64 0,.int .u64 0,.int .u64 0,.nsl]:List AV) (z7 h)) fun h_11=>obind (z18 h_11 6 (z7 h)) fun w2=>some (.ret (.agg w2),h_11)) (lett ((t4:Int) == 1) fun (t9:Bool)=>ifB t9 (obind (z1a6 6 t0 0) fun t11=>obind (z18 h_2 6 t11) fun t12=>obind (z17 h_2 6 t12 (z7 h)) fun h_19=>obind (z18 h_19 6 (z7 h)) fun w2_22=>some (.ret (.agg w2_22),h_19)) (callN (call 52 [.int .i64 3,t0] h_2) fun r14 h_24=>obind (z75 r14) fun t14=>obind (z17 h_24 6 t14 (z7 h)) fun h_27=>obind (z18 h_27 6 (z7 h)) fun w2_30=>some (.ret (.agg w2_30),h_27)))
theorem z291{call:zd}(hc:SaysAll Pg call){n:Nat}{t0:AV}{h:AHeap}{rR:ARes}{hR:AHeap}(z:za0 call n t0 h=some (rR,hR)):Says Pg 50 [t0] h rR hR:=by
 unfold za0 at z;refine sO Tryd.func50 fun w0 m0=>?_;refine wW [(0,t0)] ?_;refine oG fun n1=>W.r ?_;refine oN 2 z fun h_2 z=>?_;refine oV [(0,t0),(2,z7 h)] (n1 ?_);refine oH fun n4 q4=>?_;refine oG fun n5=>W.r ?_;refine oA 3 t0 ?_;refine oM 4 77 79 z fun t4 z=>?_;refine oV [(0,t0),(2,z7 h),(4,.int .i64 t4)] (n5 ?_);refine yd (by kernel_rfl) (fun K7 n7 s7 o7 q7 p7=>?_);refine oG fun n8=>W.r ?_;refine oB 6 z fun t6 z=>?_;refine oA 5 (.bool t6) ?_;refine oV [(0,t0),(2,z7 h),(4,.int .i64 t4),(5,.bool t6)] (n8 ?_)
 cases t6 with
 |true=>
  refine oT z fun z=>?_;refine oG fun n10=>W.r ?_;refine oA 7 (.agg ([.int .i64 1,.int .u64 0,.int .u64 0,.int .u64 0,.int .u64 0,.nsl]:List AV)) ?_;refine oW 79 (.agg ([.int .i64 1,.int .u64 0,.int .u64 0,.int .u64 0,.int .u64 0,.nsl]:List AV)) z fun h_11 z=>?_;refine oV [(2,z7 h)] (n10 (oY (q7 (q4 ?_))));obtain⟨w2,e13,z⟩:=oS z;exact lZ z [.cell 2 79] [.agg w2] (rY e13 zf)
 |false=>
  refine oU z fun z=>?_;refine oG fun n14=>W.r ?_;refine oB 9 z fun t9 z=>?_;refine oA 8 (.bool t9) ?_;refine oV [(0,t0),(2,z7 h),(8,.bool t9)] (n14 ?_)
  cases t9 with
  |true=>
   refine oT z fun z=>?_;refine oG fun n16=>W.r ?_;refine oA 10 t0 ?_;refine oP 11 77 79 .i64 z fun t11 z=>?_;refine oR 12 79 z fun t12 z=>?_;refine oW 79 (.agg t12) z fun h_19 z=>?_;refine oV [(2,z7 h)] (n16 (oY (q7 (q4 ?_))));obtain⟨w2_22,e21,z⟩:=oS z;exact lZ z [.cell 2 79] [.agg w2_22] (rY e21 zf)
  |false=>
   refine oU z fun z=>?_;refine oZ (n7 (n4 ?_));refine oG fun n23=>W.r ?_;refine oA 13 t0 ?_;refine oCa hc 14 z fun t14 h_24 z=>?_;refine oW 79 (.agg t14) z fun h_27 z=>?_;refine oV [(2,z7 h)] (n23 (oY ?_));obtain⟨w2_30,e29,z⟩:=oS z;exact lZ z [.cell 2 79] [.agg w2_30] (rY e29 zf)
noncomputable def z204(call:zd)(_:Nat)(t0:List AV)(h:AHeap):R:=
 outK (z116 h 41 (some (.agg t0))) fun v1 h_2=>
 obind (z18 h_2 2 v1) fun t9=>
 callN (call 29 [.agg t9] h_2) fun r10 h_6=>
 obind (z12b 0 r10) fun v11=>
 obind (z75 v11) fun t11=>
 obind (z12b 1 r10) fun v12=>
 obind (z75 v12) fun t12=>
 lett (newH h_6 79 [.int .i64 0,.int .u64 0,.int .u64 0,.int .u64 0,.int .u64 0,.nsl]) fun h_12=>
 lett (newH h_12 81 [.int .i64 0,.int .i64 0]) fun h_14=>
 obind (z17 h_14 6 t11 (z7 h_6)) fun h_16=>
 obind (z17 h_16 2 t12 (z7 h_12)) fun h_18=>
 obind (z9 h_18 (AV.ptr (AHeap.next h_12) 0)) fun v14=>
 obind (avInt .i64 v14) fun t14=>
 lett ((t14:Int) != 0) fun (t15:Bool)=>
 ifB t15
 (
  some (.ret (.tup [AV.nilp,.int .i64 2]),h_18))
 (
  outK (z116 h_18 87 (some (.agg ([.bool false,.int .u64 0,.int .u64 0,.int .u64 0,.int .u64 0,.int .u64 0,.int .u64 0,.int .u64 0,.int .u64 0,.int .u64 0,.int .u64 0,.int .u64 0,.int .u64 0,.int .u64 0,.int .u64 0,.int .u64 0,.int .u64 0,.int .u64 0,.int .u64 0,.int .u64 0,.int .u64 0,.int .u64 0,.int .u64 0,.int .u64 0,.int .u64 0,.int .u64 0,.int .u64 0,.int .u64 0,.int .u64 0,.int .u64 0,.int .u64 0,.int .u64 0,.int .u64 0,.int .u64 0,.int .u64 0,.int .u64 0,.int .u64 0,.int .u64 0,.int .u64 0,.int .u64 0,.int .u64 0,.int .u64 0,.int .u64 0,.int .u64 0,.int .u64 0,.int .u64 0,.int .u64 0,.int .u64 0,.int .u64 0,.int .u64 0,.int .u64 0,.int .u64 0,.int .u64 0,.int .u64 0,.int .u64 0,.int .u64 0,.int .u64 0,.int .u64 0,.int .u64 0,.int .u64 0,.int .u64 0,.int .u64 0,.int .u64 0,.int .u64 0,.int .u64 0,.int .u64 0,.int .u64 0,.int .u64 0,.int .u64 0,.int .u64 0,.int .u64 0,.int .u64 0,.int .u64 0,.int .u64 0,.int .u64 0,.int .u64 0,.int .u64 0,.int .u64 0,.int .u64 0,.int .u64 0,.int .u64 0,.int .u64 0,.int .u64 0,.int .u64 0,.int .u64 0,.int .u64 0,.int .u64 0,.int .u64 0,.int .u64 0,.int .u64 0,.int .u64 0,.int .u64 0,.int .u64 0,.int .u64 0,.int .u64 0,.int .u64 0,.int .u64 0,.int .u64 0,.int .u64 0,.int .u64 0,.int .u64 0,.int .u64 0,.int .u64 0,.int .u64 0,.int .u64 0,.int .u64 0,.int .u64 0,.int .u64 0,.int .u64 0,.int .u64 0,.int .u64 0,.int .u64 0,.int .u64 0,.int .u64 0,.int .u64 0,.int .u64 0,.int .u64 0,.int .u64 0,.int .u64 0,.int .u64 0,.int .u64 0,.int .u64 0,.int .u64 0,.int .u64 0,.int .u64 0,.int .u64 0,.int .u64 0,.int .u64 0,.int .u64 0,.int .u64 0,.int .u64 0,.int .u64 0,.int .u64 0,.int .u64 0,.int .u64 0,.int .u64 0,.int .u64 0,.int .u64 0,.int .u64 0,.int .u64 0,.int .u64 0,.int .u64 0,.int .u64 0,.int .u64 0,.int .u64 0,.int .u64 0,.int .u64 0,.int .u64 0,.int .u64 0,.int .u64 0,.int .u64 0,.int .u64 0,.int .u64 0,.int .u64 0,.int .u64 0,.int .u64 0,.int .u64 0,.int .u64 0,.int .u64 0,.int .u64 0,.int .u64 0,.int .u64 0,.int .u64 0,.int .u64 0,.int .u64 0,.int .u64 0,.int .u64 0,.int .u64 0,.int .u64 0,.int .u64 0,.int .u64 0,.int .u64 0,.int .u64 0,.int .u64 0,.int .u64 0,.int .u64 0,.int .u64 0,.int .u64 0,.int .u64 0,.int .u64 0,.int .u64 0,.int .u64 0,.int .u64 0,.int .u64 0,.int .u64 0,.int .u64 0,.int .u64 0,.int .u64 0,.int .u64 0,.int .u64 0,.int .u64 0,.int .u64 0,.int .u64 0,.int .u64 0,.int .u64 0,.int .u64 0,.int .u64 0,.int .u64 0,.int .u64 0,.int .u64 0,.int .u64 0,.int .u64 0,.int .u64 0,.int .u64 0,.int .u64 0,.int .u64 0,.int .u64 0,.int .u64 0,.int .u64 0,.int .u64 0,.int .u64 0,.int .u64 0,.int .u64 0,.int .u64 0,.int .u64 0,.int .u64 0,.int .u64 0,.int .u64 0,.int .u64 0,.int .u64 0,.int .u64 0,.int .u64 0,.int .u64 0,.int .u64 0,.int .u64 0,.int .u64 0,.int .u64 0,.int .u64 0,.int .u64 0,.int .u64 0,.int .u64 0,.int .u64 0,.int .u64 0,.int .u64 0,.int .u64 0,.int .u64 0,.int .u64 0,.int .u64 0,.int .u64 0,.int .u64 0,.int .u64 0,.int .u64 0,.int .u64 0,.int .u64 0,.int .u64 0,.int .u64 0,.int .u64 0,.int .u64 0,.int .u64 0,.int .u64 0,.int .u64 0,.int .u64 0,.int .u64 0,.int .u64 0,.int .u64 0,.int .u64 0,.int .u64 0,.int .u64 0,.int .u64 0,.int .u64 0,.int .u64 0,.int .u64 0,.int .u64 0,.int .u64 0,.int .u64 0,.int .u64 0,.int .u64 0,.int .u64 0,.int .u64 0,.int .u64 0,.int .u64 0,.int .u64 0,.int .u64 0,.int .u64 0,.int .u64 0,.int .u64 0,.int .u64 0,.int .u64 0,.int .u64 0,.int .u64 0,.int .u64 0,.int .u64 0,.int .u64 0,.int .u64 0,.int .u64 0,.int .u64 0,.int .u64 0,.int .u64 0,.int .u64 0,.int .u64 0,.int .u64 0,.int .u64 0,.int .u64 0,.int .u64 0,.int .u64 0,.int .u64 0,.int .u64 0,.int .u64 0,.int .u64 0,.int .u64 0,.int .u64 0,.int .u64 0,.int .u64 0,.int .u64 0,.int .u64 0,.int .u64 0,.int .u64 0,.int .u64 0,.int .u64 0,.int .u64 0,.int .u64 0,.int .u64 0,.int .u64 0,.int .u64 0,.int .u64 0,.int .u64 0,.int .u64 0,.int .u64 0,.int .u64 0,.int .u64 0,.int .u64 0,.int .u64 0,.int .u64 0]:List AV)))) fun v17 h_27=>
  obind (z252 Tryd.prog 89 [(0,v17)]) fun t18=>
  lett (newH h_27 89 [.nilp,.int .i64 0]) fun h_30=>
  obind (z17 h_30 2 t18 (z7 h_27)) fun h_32=>
  obind (z18 h_32 6 (z7 h_6)) fun t19=>
  callN (call 30 [(z7 h_27),.agg t19] h_32) fun r20 h_36=>
  obind (z75 r20) fun t20=>
  lett (newH h_36 91 [.bool false,.int .u64 0,.int .u64 0]) fun h_39=>
  obind (z17 h_39 3 t20 (z7 h_36)) fun h_41=>
  obind (z9 h_41 (AV.ptr (AHeap.next h_27) 0)) fun v22=>
  obind (z9 h_41 (AV.ptr (AHeap.next h_27) 0)) fun v24=>
  obind (z9 h_41 (AV.ptr (AHeap.next h_27) 0)) fun v26=>
  obind (z9 h_41 (AV.ptr (AHeap.next h_36) 0)) fun v28=>
  obind (z23 v28) fun t28=>
  obind (z9 h_41 (AV.ptr (AHeap.next h_36) 1)) fun v30=>
  obind (avInt .u64 v30) fun t30=>
  obind (z9 h_41 (AV.ptr (AHeap.next h_36) 2)) fun v32=>
  obind (avInt .u64 v32) fun t32=>
  obind (z74 v22) fun t33=>
  obind (z4d 0 t33) fun t34=>
  obind (z17 h_41 1 [.bool t28] t34) fun h_55=>
  chk (zf2 Tryd.prog h_55 72 (AV.ptr (AHeap.next h_36) 2) (.int .u64 t32)&&(zf2 Tryd.prog h_55 72 (AV.ptr (AHeap.next h_36) 1) (.int .u64 t30)&&(true&&(true&&(true&&(true&&true))))))<|
  obind (z74 v24) fun t35=>
  obind (z4d 1 t35) fun t36=>
  obind (z17 h_55 1 [.int .u64 t30] t36) fun h_60=>
  chk (zf2 Tryd.prog h_60 72 (AV.ptr (AHeap.next h_36) 2) (.int .u64 t32)&&(true&&(true&&(true&&(true&&(true&&true))))))<|
  obind (z74 v26) fun t37=>
  obind (z4d 2 t37) fun t38=>
  obind (z17 h_60 1 [.int .u64 t32] t38) fun h_65=>
  obind (z9 h_65 (AV.ptr (AHeap.next h_27) 0)) fun v40=>
  callN (call 31 [v40] h_65) fun _ h_69=>
  obind (z9 h_69 (AV.ptr (AHeap.next h_27) 0)) fun v43=>
  some (.ret (.tup [v43,.int .i64 0]),h_69))
set_option maxHeartbeats 4000000 in
set_option maxRecDepth 20000 in
theorem z4a4{call:zd}(hc:SaysAll Tryd.prog call){n:Nat}{t0:List AV}{h:AHeap}{rR:ARes}{hR:AHeap}(hF:z204 call n t0 h=some (rR,hR)):Says Tryd.prog 23 [.agg t0] h rR hR:=by
 unfold z204 at hF;refine sO Tryd.func23 fun w0 m0=>?_;refine wW [(0,.agg t0)] ?_;refine oG fun n1=>W.r ?_;refine oK 1 hF fun v1 h_2 hF=>?_;refine oA 2 AV.nilp ?_;refine oA 3 (.int .i64 0) ?_;refine oV [(1,v1)] (n1 ?_);refine oG fun n4=>W.r ?_;refine oR 9 41 hF fun t9 hF=>?_;refine oC hc (some 10) hF fun r10 h_6 hF=>?_;refine oA 8 r10 ?_;refine oEa 11 hF fun t11 hF=>?_;refine oEa 12 hF fun t12 hF=>?_;refine oN 4 hF fun h_12 hF=>?_;refine oN 5 hF fun h_14 hF=>?_;refine oW 79 (.agg t11) hF fun h_16 hF=>?_;refine oW 81 (.agg t12) hF fun h_18 hF=>?_;refine oV [(4,(z7 h_6)),(5,(z7 h_12))] (n4 ?_);refine oH fun n20 q20=>?_;refine oG fun n21=>W.r ?_;refine oA 13 (AV.ptr (AHeap.next h_12) 0) ?_;refine oLi 14 31 hF fun t14 hF=>?_;refine oB 15 hF fun t15 hF=>?_;refine oV [(4,(z7 h_6)),(15,.bool t15)] (n21 ?_)
 cases t15 with
 |true=>
  refine oT hF fun hF=>?_;refine oG fun n25=>W.r ?_;refine oA 2 AV.nilp ?_;refine oA 3 (.int .i64 2) ?_;refine oV [(2,AV.nilp),(3,.int .i64 2)] (n25 (oY (q20 ?_)));exact lZ hF [.tmp 2,.tmp 3] [AV.nilp,.int .i64 2] (rT (rT zf))
 |false=>
  refine oU hF fun hF=>?_;refine oZ (n20 ?_);refine oG fun n26=>W.r ?_;refine oA 16 (.agg ([.bool false,.int .u64 0,.int .u64 0,.int .u64 0,.int .u64 0,.int .u64 0,.int .u64 0,.int .u64 0,.int .u64 0,.int .u64 0,.int .u64 0,.int .u64 0,.int .u64 0,.int .u64 0,.int .u64 0,.int .u64 0,.int .u64 0,.int .u64 0,.int .u64 0,.int .u64 0,.int .u64 0,.int .u64 0,.int .u64 0,.int .u64 0,.int .u64 0,.int .u64 0,.int .u64 0,.int .u64 0,.int .u64 0,.int .u64 0,.int .u64 0,.int .u64 0,.int .u64 0,.int .u64 0,.int .u64 0,.int .u64 0,.int .u64 0,.int .u64 0,.int .u64 0,.int .u64 0,.int .u64 0,.int .u64 0,.int .u64 0,.int .u64 0,.int .u64 0,.int .u64 0,.int .u64 0,.int .u64 0,.int .u64 0,.int .u64 0,.int .u64 0,.int .u64 0,.int .u64 0,.int .u64 0,.int .u64 0,.int .u64 0,.int .u64 0,.int .u64 0,.int .u64 0,.int .u64 0,.int .u64 0,.int .u64 0,.int .u64 0,.int .u64 0,.int .u64 0,.int .u64 0,.int .u64 0,.int .u64 0,.int .u64 0,.int .u64 0,.int .u64 0,.int .u64 0,.int .u64 0,.int .u64 0,.int .u64 0,.int .u64 0,.int .u64 0,.int .u64 0,.int .u64 0,.int .u64 0,.int .u64 0,.int .u64 0,.int .u64 0,.int .u64 0,.int .u64 0,.int .u64 0,.int .u64 0,.int .u64 0,.int .u64 0,.int .u64 0,.int .u64 0,.int .u64 0,.int .u64 0,.int .u64 0,.int .u64 0,.int .u64 0,.int .u64 0,.int .u64 0,.int .u64 0,.int .u64 0,.int .u64 0,.int .u64 0,.int .u64 0,.int .u64 0,.int .u64 0,.int .u64 0,.int .u64 0,.int .u64 0,.int .u64 0,.int .u64 0,.int .u64 0,.int .u64 0,.int .u64 0,.int .u64 0,.int .u64 0,.int .u64 0,.int .u64 0,.int .u64 0,.int .u64 0,.int .u64 0,.int .u64 0,.int .u64 0,.int .u64 0,.int .u64 0,.int .u64 0,.int .u64 0,.int .u64 0,.int .u64 0,.int .u64 0,.int .u64 0,.int .u64 0,.int .u64 0,.int .u64 0,.int .u64 0,.int .u64 0,.int .u64 0,.int .u64 0,.int .u64 0,.int .u64 0,.int .u64 0,.int .u64 0,.int .u64 0,.int .u64 0,.int .u64 0,.int .u64 0,.int .u64 0,.int .u64 0,.int .u64 0,.int .u64 0,.int .u64 0,.int .u64 0,.int .u64 0,.int .u64 0,.int .u64 0,.int .u64 0,.int .u64 0,.int .u64 0,.int .u64 0,.int .u64 0,.int .u64 0,.int .u64 0,.int .u64 0,.int .u64 0,.int .u64 0,.int .u64 0,.int .u64 0,.int .u64 0,.int .u64 0,.int .u64 0,.int .u64 0,.int .u64 0,.int .u64 0,.int .u64 0,.int .u64 0,.int .u64 0,.int .u64 0,.int .u64 0,.int .u64 0,.int .u64 0,.int .u64 0,.int .u64 0,.int .u64 0,.int .u64 0,.int .u64 0,.int .u64 0,.int .u64 0,.int .u64 0,.int .u64 0,.int .u64 0,.int .u64 0,.int .u64 0,.int .u64 0,.int .u64 0,.int .u64 0,.int .u64 0,.int .u64 0,.int .u64 0,.int .u64 0,.int .u64 0,.int .u64 0,.int .u64 0,.int .u64 0,.int .u64 0,.int .u64 0,.int .u64 0,.int .u64 0,.int .u64 0,.int .u64 0,.int .u64 0,.int .u64 0,.int .u64 0,.int .u64 0,.int .u64 0,.int .u64 0,.int .u64 0,.int .u64 0,.int .u64 0,.int .u64 0,.int .u64 0,.int .u64 0,.int .u64 0,.int .u64 0,.int .u64 0,.int .u64 0,.int .u64 0,.int .u64 0,.int .u64 0,.int .u64 0,.int .u64 0,.int .u64 0,.int .u64 0,.int .u64 0,.int .u64 0,.int .u64 0,.int .u64 0,.int .u64 0,.int .u64 0,.int .u64 0,.int .u64 0,.int .u64 0,.int .u64 0,.int .u64 0,.int .u64 0,.int .u64 0,.int .u64 0,.int .u64 0,.int .u64 0,.int .u64 0,.int .u64 0,.int .u64 0,.int .u64 0,.int .u64 0,.int .u64 0,.int .u64 0,.int .u64 0,.int .u64 0,.int .u64 0,.int .u64 0,.int .u64 0,.int .u64 0,.int .u64 0,.int .u64 0,.int .u64 0,.int .u64 0,.int .u64 0,.int .u64 0,.int .u64 0,.int .u64 0,.int .u64 0,.int .u64 0,.int .u64 0,.int .u64 0,.int .u64 0,.int .u64 0,.int .u64 0,.int .u64 0,.int .u64 0,.int .u64 0,.int .u64 0,.int .u64 0,.int .u64 0,.int .u64 0,.int .u64 0,.int .u64 0,.int .u64 0,.int .u64 0,.int .u64 0,.int .u64 0,.int .u64 0,.int .u64 0,.int .u64 0,.int .u64 0,.int .u64 0,.int .u64 0,.int .u64 0,.int .u64 0,.int .u64 0,.int .u64 0,.int .u64 0,.int .u64 0,.int .u64 0,.int .u64 0,.int .u64 0,.int .u64 0,.int .u64 0,.int .u64 0,.int .u64 0,.int .u64 0,.int .u64 0,.int .u64 0,.int .u64 0,.int .u64 0,.int .u64 0,.int .u64 0,.int .u64 0,.int .u64 0,.int .u64 0,.int .u64 0,.int .u64 0,.int .u64 0,.int .u64 0,.int .u64 0,.int .u64 0]:List AV)) ?_;refine oK 17 hF fun v17 h_27 hF=>?_;obtain⟨t18,e29,hF⟩:=z4 hF;refine WL.val (d:=(some 18)) (v:=.agg t18) (h':=h_27) (by kernel_rfl) (by kernel_rfl) (z1b7 (by kernel_rfl) e29) ?_;refine oN 6 hF fun h_30 hF=>?_;refine oW 89 (.agg t18) hF fun h_32 hF=>?_;refine oV [(4,(z7 h_6)),(6,(z7 h_27))] (n26 ?_);refine oG fun n34=>W.r ?_;refine oR 19 79 hF fun t19 hF=>?_;refine oCa hc 20 hF fun t20 h_36 hF=>?_;refine oN 7 hF fun h_39 hF=>?_;refine oW 91 (.agg t20) hF fun h_41 hF=>?_;refine oV [(6,(z7 h_27)),(7,(z7 h_36))] (n34 ?_);refine oG fun n43=>?_;refine y1e (by kernel_rfl) (hc.ok w0) (plan:=[0,1,2,3,4,5,6,7,8,9,10,11,12,13,14,15,16,17,18,19,20]) (by kernel_rfl) (by kernel_rfl) (by kernel_rfl) ?_;refine WD.a 0 (some 21) (AV.ptr (AHeap.next h_27) 0) h_41 ?_;obtain⟨v22,e44,hF⟩:=z4 hF;refine WD.b 1 (some 22) v22 h_41 (z15 (P:=Tryd.prog) (h:=h_41) (t:=52) (by kernel_rfl) e44) ?_;refine WD.a 0 (some 23) (AV.ptr (AHeap.next h_27) 0) h_41 ?_;obtain⟨v24,e45,hF⟩:=z4 hF;refine WD.b 1 (some 24) v24 h_41 (z15 (P:=Tryd.prog) (h:=h_41) (t:=52) (by kernel_rfl) e45) ?_;refine WD.a 0 (some 25) (AV.ptr (AHeap.next h_27) 0) h_41 ?_;obtain⟨v26,e46,hF⟩:=z4 hF;refine WD.b 1 (some 26) v26 h_41 (z15 (P:=Tryd.prog) (h:=h_41) (t:=52) (by kernel_rfl) e46) ?_;refine WD.a 0 (some 27) (AV.ptr (AHeap.next h_36) 0) h_41 ?_
  replace hF:=z4 hF;obtain⟨v28,e47,hF⟩:=hF
  replace hF:=z4 hF;obtain⟨t28,c48,hF⟩:=hF
  have c48:=z34 c48;subst c48;refine WD.b 1 (some 28) (.bool t28) h_41 (z15 (P:=Tryd.prog) (h:=h_41) (t:=4) (by kernel_rfl) e47) ?_;refine WD.a 0 (some 29) (AV.ptr (AHeap.next h_36) 1) h_41 ?_
  replace hF:=z4 hF;obtain⟨v30,e49,hF⟩:=hF
  replace hF:=z4 hF;obtain⟨t30,c50,hF⟩:=hF
  have c50:=z1a c50;subst c50;refine WD.b 1 (some 30) (.int .u64 t30) h_41 (z15 (P:=Tryd.prog) (h:=h_41) (t:=72) (by kernel_rfl) e49) ?_;refine WD.a 0 (some 31) (AV.ptr (AHeap.next h_36) 2) h_41 ?_
  replace hF:=z4 hF;obtain⟨v32,e51,hF⟩:=hF
  replace hF:=z4 hF;obtain⟨t32,c52,hF⟩:=hF
  have c52:=z1a c52;subst c52;refine WD.b 1 (some 32) (.int .u64 t32) h_41 (z15 (P:=Tryd.prog) (h:=h_41) (t:=72) (by kernel_rfl) e51) ?_;obtain⟨t33,e53,hF⟩:=z4 hF;refine WD.b 0 (some 33) t33 h_41 (z2c (h:=h_41) e53) ?_;obtain⟨t34,e54,hF⟩:=z4 hF;refine WD.b 0 (some 34) t34 h_41 (z1b (P:=Tryd.prog) (h:=h_41) (s:=87) (f:=0) (by kernel_rfl) e54) ?_;obtain⟨h_55,e56,hF⟩:=z4 hF;obtain⟨k57,hF⟩:=zef hF;refine WD.eff (h':=h_55) (by kernel_rfl) (by kernel_rfl) (Eq.trans (by kernel_rfl) (z3d (P:=Tryd.prog) (h:=h_41) (t:=4) (v:=(.bool t28)) (by kernel_rfl) (by kernel_rfl) e56)) (k:=2) (by kernel_rfl) (fun _=>(Eq.trans (by kernel_rfl) k57)) (by decide) ?_;obtain⟨t35,e58,hF⟩:=z4 hF;refine WD.b 0 (some 35) t35 h_55 (z2c (h:=h_55) e58) ?_;obtain⟨t36,e59,hF⟩:=z4 hF;refine WD.b 0 (some 36) t36 h_55 (z1b (P:=Tryd.prog) (h:=h_55) (s:=87) (f:=1) (by kernel_rfl) e59) ?_;obtain⟨h_60,e61,hF⟩:=z4 hF;obtain⟨k62,hF⟩:=zef hF;refine WD.eff (h':=h_60) (by kernel_rfl) (by kernel_rfl) (Eq.trans (by kernel_rfl) (z3d (P:=Tryd.prog) (h:=h_55) (t:=72) (v:=(.int .u64 t30)) (by kernel_rfl) (by kernel_rfl) e61)) (k:=2) (by kernel_rfl) (fun _=>(Eq.trans (by kernel_rfl) k62)) (by decide) ?_;obtain⟨t37,e63,hF⟩:=z4 hF;refine WD.b 0 (some 37) t37 h_60 (z2c (h:=h_60) e63) ?_;obtain⟨t38,e64,hF⟩:=z4 hF;refine WD.b 0 (some 38) t38 h_60 (z1b (P:=Tryd.prog) (h:=h_60) (s:=87) (f:=2) (by kernel_rfl) e64) ?_;obtain⟨h_65,e66,hF⟩:=z4 hF;refine WD.eff (h':=h_65) (by kernel_rfl) (by kernel_rfl) (Eq.trans (by kernel_rfl) (z3d (P:=Tryd.prog) (h:=h_60) (t:=72) (v:=(.int .u64 t32)) (by kernel_rfl) (by kernel_rfl) e66)) (k:=2) (by kernel_rfl) (fun _=>(by kernel_rfl)) (by decide) ?_;refine WD.nil ?_;refine gW [(6,(z7 h_27))] (n43 ?_);refine oG fun n67=>W.r ?_;refine oA 39 (AV.ptr (AHeap.next h_27) 0) ?_;refine oL 40 52 hF fun v40 hF=>?_;refine oC hc (some 41) hF fun r41 h_69 hF=>?_;refine oV [(6,(z7 h_27))] (n67 ?_);refine oG fun n71=>W.r ?_;refine oA 42 (AV.ptr (AHeap.next h_27) 0) ?_;refine oL 43 52 hF fun v43 hF=>?_;refine oA 2 v43 ?_;refine oA 3 (.int .i64 0) ?_;refine oV [(2,v43),(3,.int .i64 0)] (n71 (oY ?_));exact lZ hF [.tmp 2,.tmp 3] [v43,.int .i64 0] (rT (rT zf))
noncomputable def zec(_:zd)(_:Nat)(t0:AV)(h:AHeap):R:=outK (zc1 Tryd.prog h .eql 52 true (some t0) (some AV.nilp)) fun v4 h_4=>obind (z23 v4) fun t4=>ifB t4 (some (.ret (AV.nilp),h_4)) (obind (z252 Tryd.prog 74 [(0,t0)]) fun t6=>outK (z116 h_4 74 (some (.agg t6))) fun v7 h_10=>some (.ret (v7),h_10))
set_option maxHeartbeats 4000000 in
set_option maxRecDepth 20000 in
theorem z297{call:zd}(_:SaysAll Tryd.prog call){n:Nat}{t0:AV}{h:AHeap}{rR:ARes}{hR:AHeap}(hF:zec call n t0 h=some (rR,hR)):Says Tryd.prog 25 [t0] h rR hR:=by
 unfold zec at hF;refine sO Tryd.func25 fun w0 m0=>?_;refine wW [(0,t0)] ?_;refine oG fun n1=>W.r ?_;refine oA 2 AV.nilp ?_;refine oV [(0,t0)] (n1 ?_);refine oH fun n2 q2=>?_;refine oG fun n3=>W.r ?_;refine oA 3 t0 ?_
 replace hF:=z27 hF;obtain⟨v4,h_4,e5,hF⟩:=hF
 replace hF:=z4 hF;obtain⟨t4,c6,hF⟩:=hF
 have c6:=z34 c6;subst c6;refine WL.b (some 4) (.bool t4) h_4 e5 ?_;refine oV [(0,t0),(4,.bool t4)] (n3 ?_)
 cases t4 with
 |true=>
  refine oT hF fun hF=>?_;refine oG fun n7=>W.r ?_;refine oA 2 AV.nilp ?_;refine oV [(2,AV.nilp)] (n7 (oY (q2 ?_)));exact lZ hF [.tmp 2] [AV.nilp] (rT zf)
 |false=>
  refine oU hF fun hF=>?_;refine oZ (n2 ?_);refine oG fun n8=>W.r ?_;refine oA 5 t0 ?_;obtain⟨t6,e9,hF⟩:=z4 hF;refine WL.val (d:=(some 6)) (v:=.agg t6) (h':=h_4) (by kernel_rfl) (by kernel_rfl) (z1b7 (by kernel_rfl) e9) ?_;refine oK 7 hF fun v7 h_10 hF=>?_;refine oA 2 v7 ?_;refine oV [(2,v7)] (n8 (oY ?_));exact lZ hF [.tmp 2] [v7] (rT zf)
noncomputable def z10c(call:zd)(_:Nat)(t0:AV)(h:AHeap):R:=callN (call 33 [t0] h) fun r4 h_4=>obind (z23 r4) fun t4=>ifB t4 (some (.ret (.bool false),h_4)) (obind (z74 t0) fun t6=>obind (z4d 1 t6) fun t7=>obind (z9 h_4 t7) fun v8=>obind (z23 v8) fun t8=>lett (!t8) fun (t9:Bool)=>ifB t9 (obind (z74 t0) fun t11=>obind (z4d 0 t11) fun t12=>obind (z9 h_4 t12) fun v13=>obind (z74 v13) fun t14=>obind (z4d 0 t14) fun t15=>obind (z9 h_4 t15) fun v16=>obind (z23 v16) fun t16=>some (.ret (.bool t16),h_4)) (obind (z74 t0) fun t18=>obind (z4d 2 t18) fun t19=>obind (z9 h_4 t19) fun v20=>obind (avInt .u64 v20) fun t20=>obind (z74 t0) fun t22=>obind (z4d 0 t22) fun t23=>obind (z9 h_4 t23) fun v24=>obind (z74 v24) fun t25=>obind (z4d 2 t25) fun t26=>obind (z9 h_4 t26) fun v27=>obind (avInt .u64 v27) fun t27=>lett (z3bd .u64 t20 t27) fun (t28:Int)=>lett ((t28:Int) != 0) fun (t29:Bool)=>some (.ret (.bool t29),h_4)))
set_option maxHeartbeats 4000000 in
set_option maxRecDepth 20000 in
theorem z2c6{call:zd}(hc:SaysAll Tryd.prog call){n:Nat}{t0:AV}{h:AHeap}{rR:ARes}{hR:AHeap}(hF:z10c call n t0 h=some (rR,hR)):Says Tryd.prog 28 [t0] h rR hR:=by
 unfold z10c at hF;refine sO Tryd.func28 fun w0 m0=>?_;refine wW [(0,t0)] ?_;refine oG fun n1=>W.r ?_;refine oA 2 (.bool false) ?_;refine oV [(0,t0)] (n1 ?_);refine oH fun n2 q2=>?_;refine oG fun n3=>W.r ?_;refine oA 3 t0 ?_;refine oCb hc 4 hF fun t4 h_4 hF=>?_;refine oV [(0,t0),(4,.bool t4)] (n3 ?_)
 cases t4 with
 |true=>
  refine oT hF fun hF=>?_;refine oG fun n7=>W.r ?_;refine oA 2 (.bool false) ?_;refine oV [(2,.bool false)] (n7 (oY (q2 ?_)));exact lZ hF [.tmp 2] [.bool false] (rT zf)
 |false=>
  refine oU hF fun hF=>?_;refine oZ (n2 ?_);refine oH fun n8 q8=>?_;refine oG fun n9=>W.r ?_;refine oA 5 t0 ?_;refine oC0 6 hF fun t6 hF=>?_;refine oF 7 74 1 hF fun t7 hF=>?_;refine oLb 8 4 hF fun t8 hF=>?_;refine oB 9 hF fun t9 hF=>?_;refine oV [(0,t0),(9,.bool t9)] (n9 ?_)
  cases t9 with
  |true=>
   refine oT hF fun hF=>?_;refine oG fun n15=>W.r ?_;refine oA 10 t0 ?_;refine oC0 11 hF fun t11 hF=>?_;refine oF 12 74 0 hF fun t12 hF=>?_;refine oL 13 52 hF fun v13 hF=>?_;refine oC0 14 hF fun t14 hF=>?_;refine oF 15 87 0 hF fun t15 hF=>?_;refine oLb 16 4 hF fun t16 hF=>?_;refine oA 2 (.bool t16) ?_;refine oV [(2,.bool t16)] (n15 (oY (q8 ?_)));exact lZ hF [.tmp 2] [.bool t16] (rT zf)
  |false=>
   refine oU hF fun hF=>?_;refine oZ (n8 ?_);refine oG fun n23=>?_;refine y1e (by kernel_rfl) (hc.ok w0) (plan:=[0,1,2,3,4,5,6,7,8,9,10,11,12,13]) (by kernel_rfl) (by kernel_rfl) (by kernel_rfl) ?_;refine WD.a 0 (some 17) t0 h_4 ?_;obtain⟨t18,e24,hF⟩:=z4 hF;refine WD.b 0 (some 18) t18 h_4 (z2c (h:=h_4) e24) ?_;obtain⟨t19,e25,hF⟩:=z4 hF;refine WD.b 0 (some 19) t19 h_4 (z1b (P:=Tryd.prog) (h:=h_4) (s:=74) (f:=2) (by kernel_rfl) e25) ?_
   replace hF:=z4 hF;obtain⟨v20,e26,hF⟩:=hF
   replace hF:=z4 hF;obtain⟨t20,c27,hF⟩:=hF
   have c27:=z1a c27;subst c27;refine WD.b 1 (some 20) (.int .u64 t20) h_4 (z15 (P:=Tryd.prog) (h:=h_4) (t:=72) (by kernel_rfl) e26) ?_;refine WD.a 0 (some 21) t0 h_4 ?_;obtain⟨t22,e28,hF⟩:=z4 hF;refine WD.b 0 (some 22) t22 h_4 (z2c (h:=h_4) e28) ?_;obtain⟨t23,e29,hF⟩:=z4 hF;refine WD.b 0 (some 23) t23 h_4 (z1b (P:=Tryd.prog) (h:=h_4) (s:=74) (f:=0) (by kernel_rfl) e29) ?_;obtain⟨v24,e30,hF⟩:=z4 hF;refine WD.b 1 (some 24) v24 h_4 (z15 (P:=Tryd.prog) (h:=h_4) (t:=52) (by kernel_rfl) e30) ?_;obtain⟨t25,e31,hF⟩:=z4 hF;refine WD.b 0 (some 25) t25 h_4 (z2c (h:=h_4) e31) ?_;obtain⟨t26,e32,hF⟩:=z4 hF;refine WD.b 0 (some 26) t26 h_4 (z1b (P:=Tryd.prog) (h:=h_4) (s:=87) (f:=2) (by kernel_rfl) e32) ?_
   replace hF:=z4 hF;obtain⟨v27,e33,hF⟩:=hF
   replace hF:=z4 hF;obtain⟨t27,c34,hF⟩:=hF
   have c34:=z1a c34;subst c34;refine WD.b 1 (some 27) (.int .u64 t27) h_4 (z15 (P:=Tryd.prog) (h:=h_4) (t:=72) (by kernel_rfl) e33) ?_;obtain⟨t28,e35,hF⟩:=zc hF;refine WD.val (d:=(some 28)) (v:=.int .u64 t28) (h':=h_4) (by kernel_rfl) (by kernel_rfl) (z107 (AV.int .u64) e35 (by kernel_rfl)) (k:=0) (by kernel_rfl) (fun e=>absurd e (by decide)) (by decide) ?_;obtain⟨t29,e36,hF⟩:=zc hF;refine WD.val (d:=(some 29)) (v:=.bool t29) (h':=h_4) (by kernel_rfl) (by kernel_rfl) (z107 AV.bool e36 (by kernel_rfl)) (k:=0) (by kernel_rfl) (fun e=>absurd e (by decide)) (by decide) ?_;refine WD.a 0 (some 2) (.bool t29) h_4 ?_;refine WD.nil ?_;refine gW [(2,.bool t29)] (n23 (oY ?_));exact lZ hF [.tmp 2] [.bool t29] (rT zf)
noncomputable def z10d(call:zd)(_:Nat)(t0:AV)(h:AHeap):R:=callN (call 33 [t0] h) fun r4 h_4=>obind (z23 r4) fun t4=>ifB t4 (some (.ret (.bool true),h_4)) (obind (z74 t0) fun t6=>obind (z4d 1 t6) fun t7=>obind (z9 h_4 t7) fun v8=>obind (z23 v8) fun t8=>lett (!t8) fun (t9:Bool)=>ifB t9 (obind (z74 t0) fun t11=>obind (z4d 0 t11) fun t12=>obind (z9 h_4 t12) fun v13=>obind (z74 v13) fun t14=>obind (z4d 0 t14) fun t15=>obind (z9 h_4 t15) fun v16=>obind (z23 v16) fun t16=>lett (!t16) fun (t17:Bool)=>lett (fun (t27:Bool) (h_24:AHeap)=>some (.ret (.bool t27),h_24)) fun j27=>ifB t17 (obind (z74 t0) fun t20=>obind (z4d 0 t20) fun t21=>obind (z9 h_4 t21) fun v22=>obind (z74 v22) fun t23=>obind (z4d 1 t23) fun t24=>obind (z9 h_4 t24) fun v25=>obind (avInt .u64 v25) fun t25=>lett ((t25:Int) == 0) fun (t26:Bool)=>j27 t26 h_4) (j27 false h_4)) (obind (z74 t0) fun t29=>obind (z4d 2 t29) fun t30=>obind (z9 h_4 t30) fun v31=>obind (avInt .u64 v31) fun t31=>lett ((t31:Int) == 0) fun (t32:Bool)=>some (.ret (.bool t32),h_4)))
set_option maxHeartbeats 4000000 in
set_option maxRecDepth 20000 in
theorem z2c7{call:zd}(hc:SaysAll Tryd.prog call){n:Nat}{t0:AV}{h:AHeap}{rR:ARes}{hR:AHeap}(hF:z10d call n t0 h=some (rR,hR)):Says Tryd.prog 27 [t0] h rR hR:=by
 unfold z10d at hF;refine sO Tryd.func27 fun w0 m0=>?_;refine wW [(0,t0)] ?_;refine oG fun n1=>W.r ?_;refine oA 2 (.bool false) ?_;refine oV [(0,t0)] (n1 ?_);refine oH fun n2 q2=>?_;refine oG fun n3=>W.r ?_;refine oA 3 t0 ?_;refine oCb hc 4 hF fun t4 h_4 hF=>?_;refine oV [(0,t0),(4,.bool t4)] (n3 ?_)
 cases t4 with
 |true=>
  refine oT hF fun hF=>?_;refine oG fun n7=>W.r ?_;refine oA 2 (.bool true) ?_;refine oV [(2,.bool true)] (n7 (oY (q2 ?_)));exact lZ hF [.tmp 2] [.bool true] (rT zf)
 |false=>
  refine oU hF fun hF=>?_;refine oZ (n2 ?_);refine oH fun n8 q8=>?_;refine oG fun n9=>W.r ?_;refine oA 5 t0 ?_;refine oC0 6 hF fun t6 hF=>?_;refine oF 7 74 1 hF fun t7 hF=>?_;refine oLb 8 4 hF fun t8 hF=>?_;refine oB 9 hF fun t9 hF=>?_;refine oV [(0,t0),(9,.bool t9)] (n9 ?_)
  cases t9 with
  |true=>
   refine oT hF fun hF=>?_;refine W.s (fun K15 n15 e15 q15 p15=>?_);refine W.r ?_;refine oA 10 t0 ?_;refine oC0 11 hF fun t11 hF=>?_;refine oF 12 74 0 hF fun t12 hF=>?_;refine oL 13 52 hF fun v13 hF=>?_;refine oC0 14 hF fun t14 hF=>?_;refine oF 15 87 0 hF fun t15 hF=>?_;refine oLb 16 4 hF fun t16 hF=>?_;refine oB 17 hF fun t17 hF=>?_;refine oA 18 (.bool t17) ?_;obtain⟨j27,e25,hF⟩:=zc hF
   have J26:∀(t27:Bool) (h_24:AHeap),j27 t27 h_24=some (rR,hR)→WL Tryd.prog w0 m0 (Func.ntmps Tryd.f27) (Code.ops (y6 (y6 (y3 (y6 (y3 (y3 (z4e Tryd.f27)))))))) 18 K15 [(27,.bool t27)] [] h_24:=by
    intro t27 h_24 hF;rw[e25] at hF;refine oA 2 (.bool t27) ?_;refine oV [(2,.bool t27)] (n15 (oY (q8 ?_)));exact lZ hF [.tmp 2] [.bool t27] (rT zf)
   cases t17 with
   |true=>
    replace hF:=zae hF
    refine oA 19 t0 ?_;refine oC0 20 hF fun t20 hF=>?_;refine oF 21 74 0 hF fun t21 hF=>?_;refine oL 22 52 hF fun v22 hF=>?_;refine oC0 23 hF fun t23 hF=>?_;refine oF 24 87 1 hF fun t24 hF=>?_;refine oLi 25 72 hF fun t25 hF=>?_;refine oB 26 hF fun t26 hF=>?_;refine oA 27 (.bool t26) ?_;exact lW _ (J26 _ _ hF)
   |false=>
    replace hF:=zaf hF
    refine WL.o (some 19) ?_;refine WL.o (some 20) ?_;refine WL.o (some 21) ?_;refine WL.o (some 22) ?_;refine WL.o (some 23) ?_;refine WL.o (some 24) ?_;refine WL.o (some 25) ?_;refine WL.o (some 26) ?_;refine oA 27 (.bool false) ?_;exact lW _ (J26 _ _ hF)
  |false=>
   refine oU hF fun hF=>?_;refine oZ (n8 ?_);refine oG fun n35=>W.r ?_;refine oA 28 t0 ?_;refine oC0 29 hF fun t29 hF=>?_;refine oF 30 74 2 hF fun t30 hF=>?_;refine oLi 31 72 hF fun t31 hF=>?_;refine oB 32 hF fun t32 hF=>?_;refine oA 2 (.bool t32) ?_;refine oV [(2,.bool t32)] (n35 (oY ?_));exact lZ hF [.tmp 2] [.bool t32] (rT zf)
noncomputable def z10b(call:zd)(_:Nat)(t0:AV)(t1:Int)(h:AHeap):R:=callN (call 33 [t0] h) fun r6 h_3=>obind (z23 r6) fun t6=>ifB t6 (some (.ret (.tup []),h_3)) (obind (z74 t0) fun t8=>obind (z4d 0 t8) fun t9=>obind (z9 h_3 t9) fun v10=>obind (z74 v10) fun t11=>obind (z4d 1 t11) fun t12=>obind (z9 h_3 t12) fun v13=>obind (avInt .u64 v13) fun t13=>obind (z74 t0) fun t15=>obind (z4d 1 t15) fun t16=>obind (z9 h_3 t16) fun v17=>obind (z23 v17) fun t17=>lett (fun (t4:Int) (h_21:AHeap)=>obind (z74 t0) fun t28=>obind (z4d 1 t28) fun t29=>obind (z17 h_21 1 [.bool true] t29) fun h_25=>obind (z74 t0) fun t33=>obind (z4d 0 t33) fun t34=>obind (z9 h_25 t34) fun v35=>obind (z74 v35) fun t37=>obind (z4d 67 t37) fun t38=>obind (z31a 256 1 t38 t1) fun t39=>obind (z9 h_25 t39) fun v40=>obind (avInt .u64 v40) fun t40=>lett (z3bd .u64 t4 t40) fun (t41:Int)=>obind (z74 t0) fun t42=>obind (z4d 2 t42) fun t43=>obind (z17 h_25 1 [.int .u64 t41] t43) fun h_38=>some (.ret (.tup []),h_38)) fun k20=>ifB t17 (obind (z74 t0) fun t19=>obind (z4d 0 t19) fun t20=>obind (z9 h_3 t20) fun v21=>obind (z74 t0) fun t23=>obind (z4d 2 t23) fun t24=>obind (z9 h_3 t24) fun v25=>obind (avInt .u64 v25) fun t25=>callN (call 34 [v21,.int .u64 t25] h_3) fun r26 h_47=>obind (avInt .u64 r26) fun t26=>k20 t26 h_47) (k20 t13 h_3))
set_option maxHeartbeats 4000000 in
set_option maxRecDepth 20000 in
theorem z2c5{call:zd}(hc:SaysAll Tryd.prog call){n:Nat}{t0:AV}{t1:Int}{h:AHeap}{rR:ARes}{hR:AHeap}(hF:z10b call n t0 t1 h=some (rR,hR)):Says Tryd.prog 26 [t0,.int .u8 t1] h rR hR:=by
 unfold z10b at hF;refine sO Tryd.func26 fun w0 m0=>?_;refine wW [(0,t0),(1,.int .u8 t1)] ?_;refine oH fun n1 q1=>?_;refine oG fun n2=>W.r ?_;refine oA 5 t0 ?_;refine oCb hc 6 hF fun t6 h_3 hF=>?_;refine oV [(0,t0),(1,.int .u8 t1),(6,.bool t6)] (n2 ?_)
 cases t6 with
 |true=>
  refine oT hF fun hF=>?_;refine oY (q1 ?_);exact lZ hF [] [] zf
 |false=>
  refine oU hF fun hF=>?_;refine oZ (n1 ?_);refine oG fun n6=>W.r ?_;refine oA 7 t0 ?_;refine oC0 8 hF fun t8 hF=>?_;refine oF 9 74 0 hF fun t9 hF=>?_;refine oL 10 52 hF fun v10 hF=>?_;refine oC0 11 hF fun t11 hF=>?_;refine oF 12 87 1 hF fun t12 hF=>?_;refine oLi 13 72 hF fun t13 hF=>?_;refine oA 4 (.int .u64 t13) ?_;refine oV [(0,t0),(1,.int .u8 t1),(4,.int .u64 t13)] (n6 ?_);refine W.s (fun K14 n14 e14 q14 p14=>?_);refine oG fun n15=>W.r ?_;refine oA 14 t0 ?_;refine oC0 15 hF fun t15 hF=>?_;refine oF 16 74 1 hF fun t16 hF=>?_;refine oLb 17 4 hF fun t17 hF=>?_;refine oV [(0,t0),(1,.int .u8 t1),(4,.int .u64 t13),(17,.bool t17)] (n15 ?_);obtain⟨k20,e20,hF⟩:=zc hF
  have J20:∀(t4:Int) (h_21:AHeap),k20 t4 h_21=some (rR,hR)→Go w0 m0 (Func.ntmps Tryd.f26) (K14 .normal) [(0,t0),(1,.int .u8 t1),(4,.int .u64 t4)] [] h_21:=by
   intro t4 h_21 hF;rw[e20] at hF;refine n14 ?_;refine oG fun n22=>W.r ?_;refine oA 27 t0 ?_;refine oC0 28 hF fun t28 hF=>?_;refine oF 29 74 1 hF fun t29 hF=>?_;refine oW 4 (.bool true) hF fun h_25 hF=>?_;refine oV [(0,t0),(1,.int .u8 t1),(4,.int .u64 t4)] (n22 (W.r ?_));refine oA 30 t0 ?_;refine oA 31 (.int .u64 t4) ?_;refine oA 32 t0 ?_;refine oC0 33 hF fun t33 hF=>?_;refine oF 34 74 0 hF fun t34 hF=>?_;refine oL 35 52 hF fun v35 hF=>?_;refine oA 36 (.int .u8 t1) ?_;refine oC0 37 hF fun t37 hF=>?_;refine oF 38 87 4 hF fun t38 hF=>?_;refine oQ 39 85 72 .u8 hF fun t39 hF=>?_;refine oLi 40 72 hF fun t40 hF=>?_;refine oI 41 .u64 hF fun t41 hF=>?_;refine oC0 42 hF fun t42 hF=>?_;refine oF 43 74 2 hF fun t43 hF=>?_;refine oW 72 (.int .u64 t41) hF fun h_38 hF=>?_;refine oV [] ?_;exact lY hF [] [] zf
  cases t17 with
  |true=>
   refine oT hF fun hF=>?_;refine y1e (by kernel_rfl) (hc.ok w0) (plan:=[0,1,2,3,4,5,6,7,8,9]) (by kernel_rfl) (by kernel_rfl) (by kernel_rfl) ?_;refine WD.a 0 (some 18) t0 h_3 ?_;obtain⟨t19,e40,hF⟩:=z4 hF;refine WD.b 0 (some 19) t19 h_3 (z2c (h:=h_3) e40) ?_;obtain⟨t20,e41,hF⟩:=z4 hF;refine WD.b 0 (some 20) t20 h_3 (z1b (P:=Tryd.prog) (h:=h_3) (s:=74) (f:=0) (by kernel_rfl) e41) ?_;obtain⟨v21,e42,hF⟩:=z4 hF;refine WD.b 1 (some 21) v21 h_3 (z15 (P:=Tryd.prog) (h:=h_3) (t:=52) (by kernel_rfl) e42) ?_;refine WD.a 0 (some 22) t0 h_3 ?_;obtain⟨t23,e43,hF⟩:=z4 hF;refine WD.b 0 (some 23) t23 h_3 (z2c (h:=h_3) e43) ?_;obtain⟨t24,e44,hF⟩:=z4 hF;refine WD.b 0 (some 24) t24 h_3 (z1b (P:=Tryd.prog) (h:=h_3) (s:=74) (f:=2) (by kernel_rfl) e44) ?_
   replace hF:=z4 hF;obtain⟨v25,e45,hF⟩:=hF
   replace hF:=z4 hF;obtain⟨t25,c46,hF⟩:=hF
   have c46:=z1a c46;subst c46;refine WD.b 1 (some 25) (.int .u64 t25) h_3 (z15 (P:=Tryd.prog) (h:=h_3) (t:=72) (by kernel_rfl) e45) ?_
   replace hF:=z40 hF;obtain⟨r26,h_47,e48,hF⟩:=hF
   replace hF:=z4 hF;obtain⟨t26,c49,hF⟩:=hF
   have c49:=z1a c49;subst c49;refine WD.call (d:=(some 26)) (by kernel_rfl) (by kernel_rfl) (by kernel_rfl) e48 (k:=2) (by kernel_rfl) (fun _=>(by kernel_rfl)) (by decide) ?_;refine WD.a 0 (some 4) (.int .u64 t26) h_47 ?_;refine WD.nil ?_;refine gW [(0,t0),(1,.int .u8 t1),(4,.int .u64 t26)] ?_;exact gW _ (J20 _ _ hF)
  |false=>
   refine oU hF fun hF=>?_;refine oZ ?_;exact gW _ (J20 _ _ hF)
noncomputable def z10a(_:zd)(_:Nat)(t0:AV)(h:AHeap):R:=outK (zc1 Tryd.prog h .eql 65 true (some t0) (some AV.nilp)) fun v4 h_3=>obind (z23 v4) fun t4=>lett (fun (t11:Bool) (h_6:AHeap)=>some (.ret (.bool t11),h_6)) fun j11=>ifB t4 (j11 true h_3) (obind (z74 t0) fun t7=>obind (z4d 0 t7) fun t8=>obind (z9 h_3 t8) fun v9=>outK (zc1 Tryd.prog h_3 .eql 52 true (some v9) (some AV.nilp)) fun v10 h_12=>obind (z23 v10) fun t10=>j11 t10 h_12)
set_option maxHeartbeats 4000000 in
set_option maxRecDepth 20000 in
theorem z2c4{call:zd}(_:SaysAll Tryd.prog call){n:Nat}{t0:AV}{h:AHeap}{rR:ARes}{hR:AHeap}(hF:z10a call n t0 h=some (rR,hR)):Says Tryd.prog 33 [t0] h rR hR:=by
 unfold z10a at hF;refine sO Tryd.func33 fun w0 m0=>?_;refine wW [(0,t0)] ?_;refine oG fun n1=>W.r ?_;refine oA 2 (.bool false) ?_;refine oV [(0,t0)] (n1 ?_);refine W.s (fun K2 n2 e2 q2 p2=>?_);refine W.r ?_;refine oA 3 t0 ?_
 replace hF:=z27 hF;obtain⟨v4,h_3,e4,hF⟩:=hF
 replace hF:=z4 hF;obtain⟨t4,c5,hF⟩:=hF
 have c5:=z34 c5;subst c5;refine WL.b (some 4) (.bool t4) h_3 e4 ?_;refine oA 5 (.bool t4) ?_;obtain⟨j11,e7,hF⟩:=zc hF
 have J8:∀(t11:Bool) (h_6:AHeap),j11 t11 h_6=some (rR,hR)→WL Tryd.prog w0 m0 (Func.ntmps Tryd.f33) (Code.ops (y6 (y3 (z4e Tryd.f33)))) 9 K2 [(11,.bool t11)] [] h_6:=by
  intro t11 h_6 hF;rw[e7] at hF;refine oA 2 (.bool t11) ?_;refine oV [(2,.bool t11)] (n2 (oY ?_));exact lZ hF [.tmp 2] [.bool t11] (rT zf)
 cases t4 with
 |true=>
  replace hF:=zae hF
  refine WL.o (some 6) ?_;refine WL.o (some 7) ?_;refine WL.o (some 8) ?_;refine WL.o (some 9) ?_;refine WL.o (some 10) ?_;refine oA 11 (.bool true) ?_;exact lW _ (J8 _ _ hF)
 |false=>
  replace hF:=zaf hF
  refine oA 6 t0 ?_;refine oC0 7 hF fun t7 hF=>?_;refine oF 8 74 0 hF fun t8 hF=>?_;refine oL 9 52 hF fun v9 hF=>?_
  replace hF:=z27 hF;obtain⟨v10,h_12,e13,hF⟩:=hF
  replace hF:=z4 hF;obtain⟨t10,c14,hF⟩:=hF
  have c14:=z34 c14;subst c14;refine WL.b (some 10) (.bool t10) h_12 e13 ?_;refine oA 11 (.bool t10) ?_;exact lW _ (J8 _ _ hF)
noncomputable def zd7(call:zd)(t0:AV)(k5:Int→AHeap→R)(self:Int→Int→AHeap→R)(t1_9:Int)(t5_10:Int)(h_11:AHeap):R:=lett ((t1_9:Int) != 0) fun (t7:Bool)=>ifB t7 (obind (z74 t0) fun t16=>obind (z4d 3 t16) fun t17=>callN (call 42 [.int .u64 t1_9] h_11) fun r15 h_19=>obind (avInt .i64 r15) fun t15=>obind (z31a 64 1 t17 t15) fun t18=>obind (z9 h_19 t18) fun v19=>obind (avInt .u64 v19) fun t19=>lett (orI .u64 t5_10 t19) fun (t20:Int)=>lett (IntKind.u64.wrap (t1_9 - 1)) fun (t10:Int)=>lett (z3bd .u64 t1_9 t10) fun (t11:Int)=>self t11 t20 h_19) (k5 t5_10 h_11)
noncomputable def zb4(call:zd)(t0:AV)(k5:Int→AHeap→R):Nat→Int→Int→AHeap→R:=z103 (fun _ _ _=>none) (zd7 call t0 k5)
theorem z167(call:zd)(t0:AV)(k5:Int→AHeap→R)(m:Nat):zb4 call t0 k5 (m+1)=zd7 call t0 k5 (zb4 call t0 k5 m):=rfl
noncomputable def zcf(call:zd)(n:Nat)(t0:AV)(t1:Int)(h:AHeap):R:=lett (fun (t5:Int) (h_6:AHeap)=>some (.ret (.int .u64 t5),h_6)) fun k5=>zb4 call t0 k5 n t1 0 h
set_option maxHeartbeats 4000000 in
set_option maxRecDepth 20000 in
theorem z26c{call:zd}(hc:SaysAll Tryd.prog call){n:Nat}{t0:AV}{t1:Int}{h:AHeap}{rR:ARes}{hR:AHeap}(hF:zcf call n t0 t1 h=some (rR,hR)):Says Tryd.prog 34 [t0,.int .u64 t1] h rR hR:=by
 unfold zcf at hF;refine sO Tryd.func34 fun w0 m0=>?_;refine wW [(0,t0),(1,.int .u64 t1)] ?_;refine oG fun n1=>W.r ?_;refine oA 4 (.int .u64 0) ?_;refine oV [(0,t0),(1,.int .u64 t1)] (n1 ?_);refine oG fun n2=>W.r ?_;refine oA 5 (.int .u64 0) ?_;refine oV [(0,t0),(1,.int .u64 t1),(5,.int .u64 0)] (n2 ?_);refine W.s (fun K3 n3 e3 q3 p3=>?_);obtain⟨k5,e5,hF⟩:=zc hF
 have J5:∀(t5:Int) (h_6:AHeap),k5 t5 h_6=some (rR,hR)→Go w0 m0 (Func.ntmps Tryd.f34) (K3 .normal) [(5,.int .u64 t5)] [] h_6:=by
  intro t5 h_6 hF;rw[e5] at hF;refine n3 ?_;refine oG fun n7=>W.r ?_;refine oA 21 (.int .u64 t5) ?_;refine oA 4 (.int .u64 t5) ?_;refine oV [(4,.int .u64 t5)] (n7 (oY ?_));exact lZ hF [.tmp 4] [.int .u64 t5] (rT zf)
 refine yd (by kernel_rfl) (fun K4 n4 s4 o4 q4 p4=>?_);refine y17 (by kernel_rfl) (fun I8 K8 b8 n8 e8 q8 p8=>?_)
 have L8:∀(m:Nat) (t1_9:Int) (t5_10:Int) (h_11:AHeap),zb4 call t0 k5 m t1_9 t5_10 h_11=some (rR,hR)→Go w0 m0 (Func.ntmps Tryd.f34) I8 [(0,t0),(1,.int .u64 t1_9),(5,.int .u64 t5_10)] [] h_11:=by
  intro m
  induction m with
  |zero=>intro t1_9 t5_10 h_11 hF;cases hF
  |succ m ih8=>
   intro t1_9 t5_10 h_11 hF;rw[z167] at hF;unfold zd7 at hF;refine b8 ?_;refine W.s (fun K12 n12 e12 q12 p12=>?_);refine oG fun n13=>W.r ?_;refine oA 6 (.int .u64 t1_9) ?_;refine oB 7 hF fun t7 hF=>?_;refine oV [(0,t0),(1,.int .u64 t1_9),(5,.int .u64 t5_10),(7,.bool t7)] (n13 ?_)
   cases t7 with
   |true=>
    refine oT hF fun hF=>?_;refine oZ (n12 ?_);refine oG fun n15=>?_;refine yd (by kernel_rfl) (fun K16 n16 s16 o16 q16 p16=>?_);refine y1e (by kernel_rfl) (hc.ok w0) (plan:=[0,1,2,4,5,3,6,7,8,9]) (by kernel_rfl) (by kernel_rfl) (by kernel_rfl) ?_;refine WD.a 0 (some 12) (.int .u64 t5_10) h_11 ?_;refine WD.a 0 (some 13) t0 h_11 ?_;refine WD.a 0 (some 14) (.int .u64 t1_9) h_11 ?_;obtain⟨t16,e17,hF⟩:=z4 hF;refine WD.b 0 (some 16) t16 h_11 (z2c (h:=h_11) e17) ?_;obtain⟨t17,e18,hF⟩:=z4 hF;refine WD.b 0 (some 17) t17 h_11 (z1b (P:=Tryd.prog) (h:=h_11) (s:=87) (f:=3) (by kernel_rfl) e18) ?_
    replace hF:=z40 hF;obtain⟨r15,h_19,e20,hF⟩:=hF
    replace hF:=z4 hF;obtain⟨t15,c21,hF⟩:=hF
    have c21:=z1a c21;subst c21;refine WD.call (d:=(some 15)) (by kernel_rfl) (by kernel_rfl) (by kernel_rfl) e20 (k:=2) (by kernel_rfl) (fun _=>(by kernel_rfl)) (by decide) ?_;obtain⟨t18,e22,hF⟩:=z4 hF;refine WD.b 0 (some 18) t18 h_19 (zf9 (P:=Tryd.prog) (h:=h_19) (t:=84) (e':=72) (k:=.i64) (by kernel_rfl) (by kernel_rfl) (by kernel_rfl) e22) ?_
    replace hF:=z4 hF;obtain⟨v19,e23,hF⟩:=hF
    replace hF:=z4 hF;obtain⟨t19,c24,hF⟩:=hF
    have c24:=z1a c24;subst c24;refine WD.b 1 (some 19) (.int .u64 t19) h_19 (z15 (P:=Tryd.prog) (h:=h_19) (t:=72) (by kernel_rfl) e23) ?_;obtain⟨t20,e25,hF⟩:=zc hF;refine WD.val (d:=(some 20)) (v:=.int .u64 t20) (h':=h_19) (by kernel_rfl) (by kernel_rfl) (z107 (AV.int .u64) e25 (by kernel_rfl)) (k:=0) (by kernel_rfl) (fun e=>absurd e (by decide)) (by decide) ?_;refine WD.val (d:=(some 5)) (v:=.int .u64 t20) (h':=h_19) (by kernel_rfl) (by kernel_rfl) (by kernel_rfl) (k:=2) (by kernel_rfl) (fun _=>(by kernel_rfl)) (by decide) ?_;refine WD.nil ?_;refine gW [(0,t0),(1,.int .u64 t1_9),(5,.int .u64 t20)] (n16 (n15 (W.r ?_)));refine oA 8 (.int .u64 t1_9) ?_;refine oA 9 (.int .u64 t1_9) ?_;refine oI 10 .u64 hF fun t10 hF=>?_;refine oI 11 .u64 hF fun t11 hF=>?_;refine oA 1 (.int .u64 t11) ?_;refine oV [(0,t0),(1,.int .u64 t11),(5,.int .u64 t20)] (n8 ?_);exact gW _ (ih8 _ _ _ hF)
   |false=>
    refine oU hF fun hF=>?_;refine W.exit (by kernel_rfl) ?_;refine e12 (e8 ?_);refine s4 (by kernel_rfl) ?_;exact gW _ (J5 _ _ hF)
 exact gW _ (L8 _ _ _ _ hF)
noncomputable def z31(_:zd)(_:Nat)(t0:Int)(h:AHeap):R:=lett ((t0:Int) == 0) fun (t4:Bool)=>ifB t4 (some (.ret (.int .i64 64),h)) (lett (IntKind.u64.wrap (0 - t0)) fun (t7:Int)=>lett (z3bd .u64 t0 t7) fun (t8:Int)=>lett (IntKind.u64.wrap (t8*285870213051353865)) fun (t9:Int)=>obind (shrI .u64 t9 58) fun t10=>obind (z31a 64 1 (AV.gptr 0 0) t10) fun t11=>obind (z9 h t11) fun v12=>obind (avInt .u8 v12) fun t12=>lett (IntKind.i64.wrap t12) fun (t13:Int)=>some (.ret (.int .i64 t13),h))
set_option maxHeartbeats 4000000 in
set_option maxRecDepth 20000 in
theorem z151{call:zd}(_:SaysAll Tryd.prog call){n:Nat}{t0:Int}{h:AHeap}{rR:ARes}{hR:AHeap}(hF:z31 call n t0 h=some (rR,hR)):Says Tryd.prog 42 [.int .u64 t0] h rR hR:=by
 unfold z31 at hF;refine sO Tryd.func42 fun w0 m0=>?_;refine wW [(0,.int .u64 t0)] ?_;refine oG fun n1=>W.r ?_;refine oA 2 (.int .i64 0) ?_;refine oV [(0,.int .u64 t0)] (n1 ?_);refine oH fun n2 q2=>?_;refine oG fun n3=>W.r ?_;refine oA 3 (.int .u64 t0) ?_;refine oB 4 hF fun t4 hF=>?_;refine oV [(0,.int .u64 t0),(4,.bool t4)] (n3 ?_)
 cases t4 with
 |true=>
  refine oT hF fun hF=>?_;refine oG fun n5=>W.r ?_;refine oA 2 (.int .i64 64) ?_;refine oV [(2,.int .i64 64)] (n5 (oY (q2 ?_)));exact lZ hF [.tmp 2] [.int .i64 64] (rT zf)
 |false=>
  refine oU hF fun hF=>?_;refine oZ (n2 ?_);refine oG fun n6=>W.r ?_;refine oA 5 (.int .u64 t0) ?_;refine oA 6 (.int .u64 t0) ?_;refine oI 7 .u64 hF fun t7 hF=>?_;refine oI 8 .u64 hF fun t8 hF=>?_;refine oI 9 .u64 hF fun t9 hF=>?_;obtain⟨t10,e10,hF⟩:=z4 hF;refine WL.b (some 10) (.int .u64 t10) h (z3cf (P:=Tryd.prog) (h:=h) (t:=72) (k':=.u64) (lit:=true) e10) ?_;refine oQ 11 110 5 .u64 hF fun t11 hF=>?_;refine oLi 12 5 hF fun t12 hF=>?_;refine oI 13 .i64 hF fun t13 hF=>?_;refine oA 2 (.int .i64 t13) ?_;refine oV [(2,.int .i64 t13)] (n6 (oY ?_));exact lZ hF [.tmp 2] [.int .i64 t13] (rT zf)
noncomputable def za2(call:zd)(t0:AV)(h_4:AHeap)(v44:AV)(t45:Int)(k83:AHeap→R)(self:Int→AHeap→R)(t46:Int)(h_92:AHeap):R:=lett (decide (t46<t45)) fun (t47:Bool)=>ifB t47 (obind (z1a6 6 v44 t46) fun t48=>obind (z18 h_92 6 t48) fun t49=>lett (newH h_92 79 [.int .i64 0,.int .u64 0,.int .u64 0,.int .u64 0,.int .u64 0,.nsl]) fun h_101=>obind (z17 h_101 6 t49 (z7 h_92)) fun h_103=>obind (z18 h_103 6 (z7 h_92)) fun t51=>callN (call 30 [t0,.agg t51] h_103) fun r52 h_107=>obind (z75 r52) fun t52=>lett (newH h_107 91 [.bool false,.int .u64 0,.int .u64 0]) fun h_110=>obind (z17 h_110 3 t52 (z7 h_107)) fun h_112=>obind (z9 h_112 (AV.ptr (AHeap.next h_4) 0)) fun v54=>obind (z23 v54) fun t54=>lett (fun (t58:Bool) (h_116:AHeap)=>obind (z9 h_116 (AV.ptr (AHeap.next h_4) 1)) fun v60=>obind (avInt .u64 v60) fun t60=>obind (z9 h_116 (AV.ptr (AHeap.next h_107) 1)) fun v62=>obind (avInt .u64 v62) fun t62=>lett (orI .u64 t60 t62) fun (t63:Int)=>obind (z9 h_116 (AV.ptr (AHeap.next h_4) 2)) fun v65=>obind (avInt .u64 v65) fun t65=>obind (z9 h_116 (AV.ptr (AHeap.next h_107) 2)) fun v67=>obind (avInt .u64 v67) fun t67=>lett (orI .u64 t65 t67) fun (t68:Int)=>obind (z17 h_116 3 ([.bool t58,.int .u64 t63,.int .u64 t68]:List AV) (z7 h_4)) fun h_129=>lett (IntKind.i64.wrap (t46+1)) fun (t70:Int)=>self t70 h_129) fun j58=>ifB t54 (j58 true h_112) (obind (z9 h_112 (AV.ptr (AHeap.next h_107) 0)) fun v57=>obind (z23 v57) fun t57=>j58 t57 h_112)) (k83 h_92)
noncomputable def z85(call:zd)(t0:AV)(h_4:AHeap)(v44:AV)(t45:Int)(k83:AHeap→R):Nat→Int→AHeap→R:=z103 (fun _ _=>none) (za2 call t0 h_4 v44 t45 k83)
theorem z124(call:zd)(t0:AV)(h_4:AHeap)(v44:AV)(t45:Int)(k83:AHeap→R)(m:Nat):z85 call t0 h_4 v44 t45 k83 (m+1)=za2 call t0 h_4 v44 t45 k83 (z85 call t0 h_4 v44 t45 k83 m):=rfl
noncomputable def za3(call:zd)(t0:AV)(h_4:AHeap)(v26:AV)(t27:Int)(k36:AHeap→R)(self:Int→AHeap→R)(t28:Int)(h_45:AHeap):R:=
 lett (decide (t28<t27)) fun (t29:Bool)=>
 ifB t29
 (
  obind (z1a6 6 v26 t28) fun t30=>
  obind (z18 h_45 6 t30) fun t31=>
  lett (newH h_45 79 [.int .i64 0,.int .u64 0,.int .u64 0,.int .u64 0,.int .u64 0,.nsl]) fun h_54=>
  obind (z17 h_54 6 t31 (z7 h_45)) fun h_56=>
  obind (z18 h_56 3 (z7 h_4)) fun t33=>
  obind (z18 h_56 6 (z7 h_45)) fun t35=>
  callN (call 30 [t0,.agg t35] h_56) fun r36 h_60=>
  obind (z75 r36) fun t36=>
  chk (true&&(zf2 Tryd.prog h_60 91 (z7 h_4) (.agg t33)&&true))<|
  callN (call 39 [t0,.agg t33,.agg t36] h_60) fun r37 h_64=>
  obind (z75 r37) fun t37=>
  obind (z17 h_64 3 t37 (z7 h_4)) fun h_67=>
  lett (IntKind.i64.wrap (t28+1)) fun (t38:Int)=>
  self t38 h_67)
 (
  k36 h_45)
noncomputable def z86(call:zd)(t0:AV)(h_4:AHeap)(v26:AV)(t27:Int)(k36:AHeap→R):Nat→Int→AHeap→R:=z103 (fun _ _=>none) (za3 call t0 h_4 v26 t27 k36)
theorem z125(call:zd)(t0:AV)(h_4:AHeap)(v26:AV)(t27:Int)(k36:AHeap→R)(m:Nat):z86 call t0 h_4 v26 t27 k36 (m+1)=za3 call t0 h_4 v26 t27 k36 (z86 call t0 h_4 v26 t27 k36 m):=rfl
noncomputable def z1d(call:zd)(n:Nat)(t0:AV)(t1:List AV)(h:AHeap):R:=outK (z116 h 79 (some (.agg t1))) fun v3 h_2=>lett (newH h_2 91 [.bool false,.int .u64 0,.int .u64 0]) fun h_4=>obind (z4d 0 v3) fun t14=>obind (z9 h_4 t14) fun v15=>obind (avInt .i64 v15) fun t15=>lett ((t15:Int) == 2) fun (t17:Bool)=>ifB t17 (obind (z4d 1 v3) fun t19=>obind (z18 h_4 4 t19) fun t20=>callN (call 38 [t0,.agg t20] h_4) fun r21 h_17=>obind (z75 r21) fun t21=>obind (z17 h_17 3 t21 (z7 h_2)) fun h_20=>obind (z18 h_20 3 (z7 h_2)) fun w4=>some (.ret (.agg w4),h_20)) (lett ((t15:Int) == 3) fun (t23:Bool)=>ifB t23 (lett (newH h_4 91 [.bool false,.int .u64 0,.int .u64 0]) fun h_26=>obind (z17 h_26 3 ([.bool true,.int .u64 0,.int .u64 0]:List AV) (z7 h_4)) fun h_28=>obind (z4d 5 v3) fun t25=>obind (z9 h_28 t25) fun v26=>obind (z153 v26) fun t27=>lett (fun (h_37:AHeap)=>obind (z18 h_37 3 (z7 h_4)) fun t39=>obind (z17 h_37 3 t39 (z7 h_2)) fun h_40=>obind (z18 h_40 3 (z7 h_2)) fun w4_43=>some (.ret (.agg w4_43),h_40)) fun k36=>z86 call t0 h_4 v26 t27 k36 n 0 h_28) (lett ((t15:Int) == 4) fun (t41:Bool)=>ifB t41 (lett (newH h_4 91 [.bool false,.int .u64 0,.int .u64 0]) fun h_73=>obind (z17 h_73 3 ([.bool false,.int .u64 0,.int .u64 0]:List AV) (z7 h_4)) fun h_75=>obind (z4d 5 v3) fun t43=>obind (z9 h_75 t43) fun v44=>obind (z153 v44) fun t45=>lett (fun (h_84:AHeap)=>obind (z18 h_84 3 (z7 h_4)) fun t71=>obind (z17 h_84 3 t71 (z7 h_2)) fun h_87=>obind (z18 h_87 3 (z7 h_2)) fun w4_90=>some (.ret (.agg w4_90),h_87)) fun k83=>z85 call t0 h_4 v44 t45 k83 n 0 h_75) (lett ((t15:Int) == 5) fun (t73:Bool)=>lett (fun (t72:Bool) (h_138:AHeap)=>ifB t72 (obind (z4d 5 v3) fun t76=>obind (z9 h_138 t76) fun v77=>obind (z1a6 6 v77 0) fun t78=>obind (z18 h_138 6 t78) fun t79=>callN (call 30 [t0,.agg t79] h_138) fun r80 h_144=>obind (z75 r80) fun t80=>lett (newH h_144 91 [.bool false,.int .u64 0,.int .u64 0]) fun h_147=>obind (z17 h_147 3 t80 (z7 h_144)) fun h_149=>obind (z9 h_149 (AV.ptr (AHeap.next h_144) 2)) fun v83=>obind (avInt .u64 v83) fun t83=>obind (z9 h_149 (AV.ptr (AHeap.next h_144) 1)) fun v85=>obind (avInt .u64 v85) fun t85=>callN (call 40 [t0,.int .u64 t83,.int .u64 t85] h_149) fun _ h_156=>obind (z9 h_156 (AV.ptr (AHeap.next h_144) 0)) fun v88=>obind (z23 v88) fun t88=>lett (fun (t93:Bool) (h_161:AHeap)=>obind (z17 h_161 1 [.bool t93] (AV.ptr (AHeap.next h_144) 0)) fun h_164=>obind (z18 h_164 3 (z7 h_144)) fun t95=>obind (z17 h_164 3 t95 (z7 h_2)) fun h_168=>obind (z18 h_168 3 (z7 h_2)) fun w4_171=>some (.ret (.agg w4_171),h_168)) fun j93=>ifB t88 (j93 true h_156) (obind (z4d 0 v3) fun t90=>obind (z9 h_156 t90) fun v91=>obind (avInt .i64 v91) fun t91=>lett ((t91:Int) == 5) fun (t92:Bool)=>j93 t92 h_156)) (lett ((t15:Int) == 7) fun (t97:Bool)=>ifB t97 (obind (z4d 5 v3) fun t99=>obind (z9 h_138 t99) fun v100=>obind (z1a6 6 v100 0) fun t101=>obind (z18 h_138 6 t101) fun t102=>callN (call 30 [t0,.agg t102] h_138) fun r103 h_183=>obind (z75 r103) fun t103=>lett (newH h_183 91 [.bool false,.int .u64 0,.int .u64 0]) fun h_186=>obind (z17 h_186 3 t103 (z7 h_183)) fun h_188=>obind (z17 h_188 1 [.bool true] (AV.ptr (AHeap.next h_183) 0)) fun h_191=>obind (z18 h_191 3 (z7 h_183)) fun t105=>obind (z17 h_191 3 t105 (z7 h_2)) fun h_195=>obind (z18 h_195 3 (z7 h_2)) fun w4_198=>some (.ret (.agg w4_198),h_195)) (obind (z17 h_138 3 ([.bool true,.int .u64 0,.int .u64 0]:List AV) (z7 h_2)) fun h_200=>obind (z18 h_200 3 (z7 h_2)) fun w4_203=>some (.ret (.agg w4_203),h_200)))) fun k137=>ifB t73 (k137 true h_4) (lett ((t15:Int) == 6) fun (t74:Bool)=>k137 t74 h_4))))
set_option maxHeartbeats 4000000 in
set_option maxRecDepth 20000 in
theorem z1fb{call:zd}(hc:SaysAll Tryd.prog call){n:Nat}{t0:AV}{t1:List AV}{h:AHeap}{rR:ARes}{hR:AHeap}(hF:z1d call n t0 t1 h=some (rR,hR)):Says Tryd.prog 30 [t0,.agg t1] h rR hR:=by
 unfold z1d at hF;refine sO Tryd.func30 fun w0 m0=>?_;refine wW [(0,t0),(1,.agg t1)] ?_;refine oG fun n1=>W.r ?_;refine oK 3 hF fun v3 h_2 hF=>?_;refine oN 4 hF fun h_4 hF=>?_;refine oV [(0,t0),(3,v3),(4,(z7 h_2))] (n1 ?_);refine oH fun n6 q6=>?_;refine oG fun n7=>W.r ?_;refine oF 14 79 0 hF fun t14 hF=>?_;refine oLi 15 3 hF fun t15 hF=>?_;refine oV [(0,t0),(3,v3),(4,(z7 h_2)),(15,.int .i64 t15)] (n7 ?_);refine yd (by kernel_rfl) (fun K11 n11 s11 o11 q11 p11=>?_);refine oG fun n12=>W.r ?_;refine oB 17 hF fun t17 hF=>?_;refine oA 16 (.bool t17) ?_;refine oV [(0,t0),(3,v3),(4,(z7 h_2)),(15,.int .i64 t15),(16,.bool t17)] (n12 ?_)
 cases t17 with
 |true=>
  refine oT hF fun hF=>?_;refine oG fun n14=>W.r ?_;refine oA 18 t0 ?_;refine oF 19 79 1 hF fun t19 hF=>?_;refine oR 20 76 hF fun t20 hF=>?_;refine oCa hc 21 hF fun t21 h_17 hF=>?_;refine oW 91 (.agg t21) hF fun h_20 hF=>?_;refine oV [(4,(z7 h_2))] (n14 (oY (q11 (q6 ?_))));obtain⟨w4,e22,hF⟩:=z4 hF;exact lZ hF [.cell 4 91] [.agg w4] (rY e22 zf)
 |false=>
  refine oU hF fun hF=>?_;refine oG fun n23=>W.r ?_;refine oB 23 hF fun t23 hF=>?_;refine oA 22 (.bool t23) ?_;refine oV [(0,t0),(3,v3),(4,(z7 h_2)),(15,.int .i64 t15),(22,.bool t23)] (n23 ?_)
  cases t23 with
  |true=>
   refine oT hF fun hF=>?_;refine oG fun n25=>W.r ?_;refine oA 24 (.agg ([.bool true,.int .u64 0,.int .u64 0]:List AV)) ?_;refine oN 5 hF fun h_26 hF=>?_;refine oW 91 (.agg ([.bool true,.int .u64 0,.int .u64 0]:List AV)) hF fun h_28 hF=>?_;refine oV [(0,t0),(3,v3),(4,(z7 h_2)),(5,(z7 h_4))] (n25 ?_);refine W.s (fun K30 n30 e30 q30 p30=>?_);refine oG fun n31=>W.r ?_;refine oF 25 79 2 hF fun t25 hF=>?_;refine oL 26 77 hF fun v26 hF=>?_;refine oM 27 77 79 hF fun t27 hF=>?_;refine oA 28 (.int .i64 0) ?_;refine oV [(0,t0),(4,(z7 h_2)),(5,(z7 h_4)),(26,v26),(27,.int .i64 t27),(28,.int .i64 0)] (n31 ?_);obtain⟨k36,e36,hF⟩:=zc hF
   have J36:∀(h_37:AHeap),k36 h_37=some (rR,hR)→Go w0 m0 (Func.ntmps Tryd.f30) (K30 .normal) [(4,(z7 h_2)),(5,(z7 h_4))] [] h_37:=by
    intro h_37 hF;rw[e36] at hF;refine n30 ?_;refine oG fun n38=>W.r ?_;refine oR 39 91 hF fun t39 hF=>?_;refine oW 91 (.agg t39) hF fun h_40 hF=>?_;refine oV [(4,(z7 h_2))] (n38 (oY (q11 (q6 ?_))));obtain⟨w4_43,e42,hF⟩:=z4 hF;exact lZ hF [.cell 4 91] [.agg w4_43] (rY e42 zf)
   refine yd (by kernel_rfl) (fun K35 n35 s35 o35 q35 p35=>?_);refine y17 (by kernel_rfl) (fun I44 K44 b44 n44 e44 q44 p44=>?_)
   have L44:∀(m:Nat) (t28:Int) (h_45:AHeap),z86 call t0 h_4 v26 t27 k36 m t28 h_45=some (rR,hR)→Go w0 m0 (Func.ntmps Tryd.f30) I44 [(0,t0),(4,(z7 h_2)),(5,(z7 h_4)),(26,v26),(27,.int .i64 t27),(28,.int .i64 t28)] [] h_45:=by
    intro m
    induction m with
    |zero=>intro t28 h_45 hF;cases hF
    |succ m ih44=>
     intro t28 h_45 hF;rw[z125] at hF;unfold za3 at hF;refine b44 ?_;refine oG fun n46=>W.r ?_;refine oB 29 hF fun t29 hF=>?_;refine oV [(0,t0),(4,(z7 h_2)),(5,(z7 h_4)),(26,v26),(27,.int .i64 t27),(28,.int .i64 t28),(29,.bool t29)] (n46 ?_);refine W.s (fun K48 n48 e48 q48 p48=>?_)
     cases t29 with
     |true=>
      refine oT hF fun hF=>?_;refine oZ (n48 ?_);refine oG fun n49=>?_;refine yd (by kernel_rfl) (fun K50 n50 s50 o50 q50 p50=>?_);refine oG fun n51=>W.r ?_;refine oP 30 77 79 .i64 hF fun t30 hF=>?_;refine oR 31 79 hF fun t31 hF=>?_;refine oN 7 hF fun h_54 hF=>?_;refine oW 79 (.agg t31) hF fun h_56 hF=>?_;refine oV [(0,t0),(4,(z7 h_2)),(5,(z7 h_4)),(7,(z7 h_45)),(26,v26),(27,.int .i64 t27),(28,.int .i64 t28)] (n51 ?_);refine y1e (by kernel_rfl) (hc.ok w0) (plan:=[0,1,2,3,4,5,6]) (by kernel_rfl) (by kernel_rfl) (by kernel_rfl) ?_;refine WD.a 0 (some 32) t0 h_56 ?_;obtain⟨t33,e58,hF⟩:=z4 hF;refine WD.b 1 (some 33) (.agg t33) h_56 (zc6 (P:=Tryd.prog) (h:=h_56) (t:=91) (by kernel_rfl) (by kernel_rfl) e58) ?_;refine WD.a 0 (some 34) t0 h_56 ?_;obtain⟨t35,e59,hF⟩:=z4 hF;refine WD.b 1 (some 35) (.agg t35) h_56 (zc6 (P:=Tryd.prog) (h:=h_56) (t:=79) (by kernel_rfl) (by kernel_rfl) e59) ?_
      replace hF:=z40 hF;obtain⟨r36,h_60,e61,hF⟩:=hF
      replace hF:=z4 hF;obtain⟨t36,c62,hF⟩:=hF
      have c62:=z50 c62;subst c62;obtain⟨k63,hF⟩:=zef hF;refine WD.call (d:=(some 36)) (by kernel_rfl) (by kernel_rfl) (by kernel_rfl) e61 (k:=2) (by kernel_rfl) (fun _=>(Eq.trans (by kernel_rfl) k63)) (by decide) ?_
      replace hF:=z40 hF;obtain⟨r37,h_64,e65,hF⟩:=hF
      replace hF:=z4 hF;obtain⟨t37,c66,hF⟩:=hF
      have c66:=z50 c66;subst c66;refine WD.call (d:=(some 37)) (by kernel_rfl) (by kernel_rfl) (by kernel_rfl) e65 (k:=2) (by kernel_rfl) (fun _=>(by kernel_rfl)) (by decide) ?_;obtain⟨h_67,e68,hF⟩:=z4 hF;refine WD.eff (h':=h_67) (by kernel_rfl) (by kernel_rfl) (Eq.trans (by kernel_rfl) (z3d (P:=Tryd.prog) (h:=h_64) (t:=91) (v:=(.agg t37)) (by kernel_rfl) (by kernel_rfl) e68)) (k:=2) (by kernel_rfl) (fun _=>(by kernel_rfl)) (by decide) ?_;refine WD.nil ?_;refine gW [(0,t0),(4,(z7 h_2)),(5,(z7 h_4)),(26,v26),(27,.int .i64 t27),(28,.int .i64 t28)] (n50 (n49 (W.r ?_)));refine oI 38 .i64 hF fun t38 hF=>?_;refine oA 28 (.int .i64 t38) ?_;refine oV [(0,t0),(4,(z7 h_2)),(5,(z7 h_4)),(26,v26),(27,.int .i64 t27),(28,.int .i64 t38)] (n44 ?_);exact gW _ (ih44 _ _ hF)
     |false=>
      refine oU hF fun hF=>?_;refine W.exit (by kernel_rfl) ?_;refine e48 (e44 ?_);refine s35 (by kernel_rfl) ?_;exact gW _ (J36 _ hF)
   exact gW _ (L44 _ _ _ hF)
  |false=>
   refine oU hF fun hF=>?_;refine oG fun n70=>W.r ?_;refine oB 41 hF fun t41 hF=>?_;refine oA 40 (.bool t41) ?_;refine oV [(0,t0),(3,v3),(4,(z7 h_2)),(15,.int .i64 t15),(40,.bool t41)] (n70 ?_)
   cases t41 with
   |true=>
    refine oT hF fun hF=>?_;refine oG fun n72=>W.r ?_;refine oA 42 (.agg ([.bool false,.int .u64 0,.int .u64 0]:List AV)) ?_;refine oN 8 hF fun h_73 hF=>?_;refine oW 91 (.agg ([.bool false,.int .u64 0,.int .u64 0]:List AV)) hF fun h_75 hF=>?_;refine oV [(0,t0),(3,v3),(4,(z7 h_2)),(8,(z7 h_4))] (n72 ?_);refine W.s (fun K77 n77 e77 q77 p77=>?_);refine oG fun n78=>W.r ?_;refine oF 43 79 2 hF fun t43 hF=>?_;refine oL 44 77 hF fun v44 hF=>?_;refine oM 45 77 79 hF fun t45 hF=>?_;refine oA 46 (.int .i64 0) ?_;refine oV [(0,t0),(4,(z7 h_2)),(8,(z7 h_4)),(44,v44),(45,.int .i64 t45),(46,.int .i64 0)] (n78 ?_);obtain⟨k83,e83,hF⟩:=zc hF
    have J83:∀(h_84:AHeap),k83 h_84=some (rR,hR)→Go w0 m0 (Func.ntmps Tryd.f30) (K77 .normal) [(4,(z7 h_2)),(8,(z7 h_4))] [] h_84:=by
     intro h_84 hF;rw[e83] at hF;refine n77 ?_;refine oG fun n85=>W.r ?_;refine oR 71 91 hF fun t71 hF=>?_;refine oW 91 (.agg t71) hF fun h_87 hF=>?_;refine oV [(4,(z7 h_2))] (n85 (oY (q11 (q6 ?_))));obtain⟨w4_90,e89,hF⟩:=z4 hF;exact lZ hF [.cell 4 91] [.agg w4_90] (rY e89 zf)
    refine yd (by kernel_rfl) (fun K82 n82 s82 o82 q82 p82=>?_);refine y17 (by kernel_rfl) (fun I91 K91 b91 n91 e91 q91 p91=>?_)
    have L91:∀(m:Nat) (t46:Int) (h_92:AHeap),z85 call t0 h_4 v44 t45 k83 m t46 h_92=some (rR,hR)→Go w0 m0 (Func.ntmps Tryd.f30) I91 [(0,t0),(4,(z7 h_2)),(8,(z7 h_4)),(44,v44),(45,.int .i64 t45),(46,.int .i64 t46)] [] h_92:=by
     intro m
     induction m with
     |zero=>intro t46 h_92 hF;cases hF
     |succ m ih91=>
      intro t46 h_92 hF;rw[z124] at hF;unfold za2 at hF;refine b91 ?_;refine oG fun n93=>W.r ?_;refine oB 47 hF fun t47 hF=>?_;refine oV [(0,t0),(4,(z7 h_2)),(8,(z7 h_4)),(44,v44),(45,.int .i64 t45),(46,.int .i64 t46),(47,.bool t47)] (n93 ?_);refine W.s (fun K95 n95 e95 q95 p95=>?_)
      cases t47 with
      |true=>
       refine oT hF fun hF=>?_;refine oZ (n95 ?_);refine oG fun n96=>?_;refine yd (by kernel_rfl) (fun K97 n97 s97 o97 q97 p97=>?_);refine oG fun n98=>W.r ?_;refine oP 48 77 79 .i64 hF fun t48 hF=>?_;refine oR 49 79 hF fun t49 hF=>?_;refine oN 10 hF fun h_101 hF=>?_;refine oW 79 (.agg t49) hF fun h_103 hF=>?_;refine oV [(0,t0),(4,(z7 h_2)),(8,(z7 h_4)),(10,(z7 h_92)),(44,v44),(45,.int .i64 t45),(46,.int .i64 t46)] (n98 ?_);refine oG fun n105=>W.r ?_;refine oA 50 t0 ?_;refine oR 51 79 hF fun t51 hF=>?_;refine oCa hc 52 hF fun t52 h_107 hF=>?_;refine oN 11 hF fun h_110 hF=>?_;refine oW 91 (.agg t52) hF fun h_112 hF=>?_;refine oV [(0,t0),(4,(z7 h_2)),(8,(z7 h_4)),(11,(z7 h_107)),(44,v44),(45,.int .i64 t45),(46,.int .i64 t46)] (n105 (W.r ?_));refine oA 53 (AV.ptr (AHeap.next h_4) 0) ?_;refine oLb 54 4 hF fun t54 hF=>?_;refine oA 55 (.bool t54) ?_;obtain⟨j58,e117,hF⟩:=zc hF
       have J118:∀(t58:Bool) (h_116:AHeap),j58 t58 h_116=some (rR,hR)→WL Tryd.prog w0 m0 (Func.ntmps Tryd.f30) (Code.ops (y3 (y3 (y6 (y6 (y3 (y3 (y6 (y6 (y3 (y6 (y3 (y6 (y3 (y3 (y3 (y3 (y3 (y6 (y3 (y6 (y3 (z4e Tryd.f30))))))))))))))))))))))) 6 K97 [(0,t0),(4,(z7 h_2)),(8,(z7 h_4)),(11,(z7 h_107)),(44,v44),(45,.int .i64 t45),(46,.int .i64 t46),(58,.bool t58)] [] h_116:=by
        intro t58 h_116 hF;rw[e117] at hF;refine oA 59 (AV.ptr (AHeap.next h_4) 1) ?_;refine oLi 60 72 hF fun t60 hF=>?_;refine oA 61 (AV.ptr (AHeap.next h_107) 1) ?_;refine oLi 62 72 hF fun t62 hF=>?_;refine oI 63 .u64 hF fun t63 hF=>?_;refine oA 64 (AV.ptr (AHeap.next h_4) 2) ?_;refine oLi 65 72 hF fun t65 hF=>?_;refine oA 66 (AV.ptr (AHeap.next h_107) 2) ?_;refine oLi 67 72 hF fun t67 hF=>?_;refine oI 68 .u64 hF fun t68 hF=>?_;refine oA 69 (.agg ([.bool t58,.int .u64 t63,.int .u64 t68]:List AV)) ?_;refine oW 91 (.agg ([.bool t58,.int .u64 t63,.int .u64 t68]:List AV)) hF fun h_129 hF=>?_;refine oV [(0,t0),(4,(z7 h_2)),(8,(z7 h_4)),(44,v44),(45,.int .i64 t45),(46,.int .i64 t46)] (n97 (n96 (W.r ?_)));refine oI 70 .i64 hF fun t70 hF=>?_;refine oA 46 (.int .i64 t70) ?_;refine oV [(0,t0),(4,(z7 h_2)),(8,(z7 h_4)),(44,v44),(45,.int .i64 t45),(46,.int .i64 t70)] (n91 ?_);exact gW _ (ih91 _ _ hF)
       cases t54 with
       |true=>
        replace hF:=zae hF
        refine WL.o (some 56) ?_;refine WL.o (some 57) ?_;refine oA 58 (.bool true) ?_;exact lW _ (J118 _ _ hF)
       |false=>
        replace hF:=zaf hF
        refine oA 56 (AV.ptr (AHeap.next h_107) 0) ?_;refine oLb 57 4 hF fun t57 hF=>?_;refine oA 58 (.bool t57) ?_;exact lW _ (J118 _ _ hF)
      |false=>
       refine oU hF fun hF=>?_;refine W.exit (by kernel_rfl) ?_;refine e95 (e91 ?_);refine s82 (by kernel_rfl) ?_;exact gW _ (J83 _ hF)
    exact gW _ (L91 _ _ _ hF)
   |false=>
    refine oU hF fun hF=>?_;refine W.s (fun K134 n134 e134 q134 p134=>?_);refine oG fun n135=>W.r ?_;refine oB 73 hF fun t73 hF=>?_;refine oA 72 (.bool t73) ?_;refine oV [(0,t0),(3,v3),(4,(z7 h_2)),(15,.int .i64 t15),(72,.bool t73)] (n135 ?_);obtain⟨k137,e137,hF⟩:=zc hF
    have J137:∀(t72:Bool) (h_138:AHeap),k137 t72 h_138=some (rR,hR)→Go w0 m0 (Func.ntmps Tryd.f30) (K134 .normal) [(0,t0),(3,v3),(4,(z7 h_2)),(15,.int .i64 t15),(72,.bool t72)] [] h_138:=by
     intro t72 h_138 hF;rw[e137] at hF;refine n134 ?_
     cases t72 with
     |true=>
      refine oT hF fun hF=>?_;refine oG fun n139=>W.r ?_;refine oA 75 t0 ?_;refine oF 76 79 2 hF fun t76 hF=>?_;refine oL 77 77 hF fun v77 hF=>?_;refine oP 78 77 79 .i64 hF fun t78 hF=>?_;refine oR 79 79 hF fun t79 hF=>?_;refine oCa hc 80 hF fun t80 h_144 hF=>?_;refine oN 12 hF fun h_147 hF=>?_;refine oW 91 (.agg t80) hF fun h_149 hF=>?_;refine oV [(0,t0),(3,v3),(4,(z7 h_2)),(12,(z7 h_144))] (n139 ?_);refine oG fun n151=>W.r ?_;refine oA 81 t0 ?_;refine oA 82 (AV.ptr (AHeap.next h_144) 2) ?_;refine oLi 83 72 hF fun t83 hF=>?_;refine oA 84 (AV.ptr (AHeap.next h_144) 1) ?_;refine oLi 85 72 hF fun t85 hF=>?_;refine oC hc (some 86) hF fun r86 h_156 hF=>?_;refine oV [(3,v3),(4,(z7 h_2)),(12,(z7 h_144))] (n151 ?_);refine W.s (fun K158 n158 e158 q158 p158=>?_);refine W.r ?_;refine oA 87 (AV.ptr (AHeap.next h_144) 0) ?_;refine oLb 88 4 hF fun t88 hF=>?_;refine oA 89 (.bool t88) ?_;obtain⟨j93,e162,hF⟩:=zc hF
      have J163:∀(t93:Bool) (h_161:AHeap),j93 t93 h_161=some (rR,hR)→WL Tryd.prog w0 m0 (Func.ntmps Tryd.f30) (Code.ops (y6 (y3 (y3 (y6 (y3 (y3 (y3 (y3 (y3 (y3 (y3 (y6 (y3 (y6 (y3 (z4e Tryd.f30))))))))))))))))) 7 K158 [(4,(z7 h_2)),(12,(z7 h_144)),(93,.bool t93)] [] h_161:=by
       intro t93 h_161 hF;rw[e162] at hF;refine oA 94 (AV.ptr (AHeap.next h_144) 0) ?_;refine oW 4 (.bool t93) hF fun h_164 hF=>?_;refine oV [(4,(z7 h_2)),(12,(z7 h_144))] (n158 ?_);refine oG fun n166=>W.r ?_;refine oR 95 91 hF fun t95 hF=>?_;refine oW 91 (.agg t95) hF fun h_168 hF=>?_;refine oV [(4,(z7 h_2))] (n166 (oY (q11 (q6 ?_))));obtain⟨w4_171,e170,hF⟩:=z4 hF;exact lZ hF [.cell 4 91] [.agg w4_171] (rY e170 zf)
      cases t88 with
      |true=>
       replace hF:=zae hF
       refine WL.o (some 90) ?_;refine WL.o (some 91) ?_;refine WL.o (some 92) ?_;refine oA 93 (.bool true) ?_;exact lW _ (J163 _ _ hF)
      |false=>
       replace hF:=zaf hF
       refine oF 90 79 0 hF fun t90 hF=>?_;refine oLi 91 3 hF fun t91 hF=>?_;refine oB 92 hF fun t92 hF=>?_;refine oA 93 (.bool t92) ?_;exact lW _ (J163 _ _ hF)
     |false=>
      refine oU hF fun hF=>?_;refine oG fun n176=>W.r ?_;refine oB 97 hF fun t97 hF=>?_;refine oA 96 (.bool t97) ?_;refine oV [(0,t0),(3,v3),(4,(z7 h_2)),(96,.bool t97)] (n176 ?_)
      cases t97 with
      |true=>
       refine oT hF fun hF=>?_;refine oG fun n178=>W.r ?_;refine oA 98 t0 ?_;refine oF 99 79 2 hF fun t99 hF=>?_;refine oL 100 77 hF fun v100 hF=>?_;refine oP 101 77 79 .i64 hF fun t101 hF=>?_;refine oR 102 79 hF fun t102 hF=>?_;refine oCa hc 103 hF fun t103 h_183 hF=>?_;refine oN 13 hF fun h_186 hF=>?_;refine oW 91 (.agg t103) hF fun h_188 hF=>?_;refine oV [(4,(z7 h_2)),(13,(z7 h_183))] (n178 ?_);refine oG fun n190=>W.r ?_;refine oA 104 (AV.ptr (AHeap.next h_183) 0) ?_;refine oW 4 (.bool true) hF fun h_191 hF=>?_;refine oV [(4,(z7 h_2)),(13,(z7 h_183))] (n190 ?_);refine oG fun n193=>W.r ?_;refine oR 105 91 hF fun t105 hF=>?_;refine oW 91 (.agg t105) hF fun h_195 hF=>?_;refine oV [(4,(z7 h_2))] (n193 (oY (q11 (q6 ?_))));obtain⟨w4_198,e197,hF⟩:=z4 hF;exact lZ hF [.cell 4 91] [.agg w4_198] (rY e197 zf)
      |false=>
       refine oU hF fun hF=>?_;refine oZ (n11 (n6 ?_));refine oG fun n199=>W.r ?_;refine oA 106 (.agg ([.bool true,.int .u64 0,.int .u64 0]:List AV)) ?_;refine oW 91 (.agg ([.bool true,.int .u64 0,.int .u64 0]:List AV)) hF fun h_200 hF=>?_;refine oV [(4,(z7 h_2))] (n199 (oY ?_));obtain⟨w4_203,e202,hF⟩:=z4 hF;exact lZ hF [.cell 4 91] [.agg w4_203] (rY e202 zf)
    cases t73 with
    |true=>
     refine oT hF fun hF=>?_;refine oZ ?_;exact gW _ (J137 _ _ hF)
    |false=>
     refine oU hF fun hF=>?_;refine W.r ?_;refine oB 74 hF fun t74 hF=>?_;refine oA 72 (.bool t74) ?_;refine oV [(0,t0),(3,v3),(4,(z7 h_2)),(15,.int .i64 t15),(72,.bool t74)] ?_;exact gW _ (J137 _ _ hF)
noncomputable def z78(t0:AV)(v3:AV)(t11:Int)(k25:AHeap→R)(self:Int→AHeap→R)(t19:Int)(h_32:AHeap):R:=lett (decide (t19<256)) fun (t20:Bool)=>ifB t20 (obind (quoI .i64 t19 64) fun t23=>obind (z31a 4 1 v3 t23) fun t24=>obind (z9 h_32 t24) fun v25=>obind (avInt .u64 v25) fun t25=>obind (remI .i64 t19 64) fun t27=>obind (shrI .u64 t25 t27) fun t28=>lett (z3bd .u64 t28 1) fun (t29:Int)=>lett ((t29:Int) == 1) fun (t30:Bool)=>lett (fun (h_49:AHeap)=>lett (IntKind.i64.wrap (t19+1)) fun (t45:Int)=>self t45 h_49) fun k48=>ifB t30 (obind (z74 t0) fun t32=>obind (z4d 0 t32) fun t33=>obind (z9 h_32 t33) fun v34=>obind (z74 v34) fun t36=>obind (z4d 67 t36) fun t37=>obind (z31a 256 1 t37 t19) fun t38=>obind (z9 h_32 t38) fun v39=>obind (avInt .u64 v39) fun t39=>lett (orI .u64 t39 t11) fun (t41:Int)=>obind (z74 v34) fun t42=>obind (z4d 67 t42) fun t43=>obind (z31a 256 1 t43 t19) fun t44=>obind (z17 h_32 1 [.int .u64 t41] t44) fun h_63=>k48 h_63) (k48 h_32)) (k25 h_32)
noncomputable def z84(t0:AV)(v3:AV)(t11:Int)(k25:AHeap→R):Nat→Int→AHeap→R:=z103 (fun _ _=>none) (z78 t0 v3 t11 k25)
theorem zd4(t0:AV)(v3:AV)(t11:Int)(k25:AHeap→R)(m:Nat):z84 t0 v3 t11 k25 (m+1)=z78 t0 v3 t11 k25 (z84 t0 v3 t11 k25 m):=rfl
noncomputable def z8d(_:zd)(n:Nat)(t0:AV)(t1:List AV)(h:AHeap):R:=outK (z116 h 76 (some (.agg t1))) fun v3 h_2=>lett (newH h_2 91 [.bool false,.int .u64 0,.int .u64 0]) fun h_4=>obind (z74 t0) fun t8=>obind (z4d 1 t8) fun t9=>obind (z9 h_4 t9) fun v10=>obind (avInt .i64 v10) fun t10=>obind (shlI .u64 1 t10) fun t11=>obind (z74 t0) fun t13=>obind (z4d 1 t13) fun t14=>obind (z9 h_4 t14) fun v15=>obind (avInt .i64 v15) fun t15=>lett (IntKind.i64.wrap (t15+1)) fun (t16:Int)=>obind (z74 t0) fun t17=>obind (z4d 1 t17) fun t18=>obind (z17 h_4 1 [.int .i64 t16] t18) fun h_20=>lett (fun (h_26:AHeap)=>obind (z17 h_26 3 ([.bool false,.int .u64 t11,.int .u64 t11]:List AV) (z7 h_2)) fun h_28=>obind (z18 h_28 3 (z7 h_2)) fun w4=>some (.ret (.agg w4),h_28)) fun k25=>z84 t0 v3 t11 k25 n 0 h_20
set_option maxHeartbeats 4000000 in
set_option maxRecDepth 20000 in
theorem z1fa{call:zd}(hc:SaysAll Tryd.prog call){n:Nat}{t0:AV}{t1:List AV}{h:AHeap}{rR:ARes}{hR:AHeap}(hF:z8d call n t0 t1 h=some (rR,hR)):Says Tryd.prog 38 [t0,.agg t1] h rR hR:=by
 unfold z8d at hF;refine sO Tryd.func38 fun w0 m0=>?_;refine wW [(0,t0),(1,.agg t1)] ?_;refine oG fun n1=>W.r ?_;refine oK 3 hF fun v3 h_2 hF=>?_;refine oN 4 hF fun h_4 hF=>?_;refine oV [(0,t0),(3,v3),(4,(z7 h_2))] (n1 ?_);refine oG fun n6=>W.r ?_;refine oA 7 t0 ?_;refine oC0 8 hF fun t8 hF=>?_;refine oF 9 89 1 hF fun t9 hF=>?_;refine oLi 10 3 hF fun t10 hF=>?_;obtain⟨t11,e11,hF⟩:=z4 hF;refine WL.b (some 11) (.int .u64 t11) h_4 (z3d1 (P:=Tryd.prog) (h:=h_4) (t:=72) (k':=.i64) (lit:=true) e11) ?_;refine oA 5 (.int .u64 t11) ?_;refine oV [(0,t0),(3,v3),(4,(z7 h_2)),(5,.int .u64 t11)] (n6 ?_);refine oG fun n12=>W.r ?_;refine oA 12 t0 ?_;refine oC0 13 hF fun t13 hF=>?_;refine oF 14 89 1 hF fun t14 hF=>?_;refine oLi 15 3 hF fun t15 hF=>?_;refine oI 16 .i64 hF fun t16 hF=>?_;refine oC0 17 hF fun t17 hF=>?_;refine oF 18 89 1 hF fun t18 hF=>?_;refine oW 3 (.int .i64 t16) hF fun h_20 hF=>?_;refine oV [(0,t0),(3,v3),(4,(z7 h_2)),(5,.int .u64 t11)] (n12 ?_);refine W.s (fun K22 n22 e22 q22 p22=>?_);refine oG fun n23=>W.r ?_;refine oA 19 (.int .i64 0) ?_;refine oV [(0,t0),(3,v3),(4,(z7 h_2)),(5,.int .u64 t11),(19,.int .i64 0)] (n23 ?_);obtain⟨k25,e25,hF⟩:=zc hF
 have J25:∀(h_26:AHeap),k25 h_26=some (rR,hR)→Go w0 m0 (Func.ntmps Tryd.f38) (K22 .normal) [(4,(z7 h_2)),(5,.int .u64 t11)] [] h_26:=by
  intro h_26 hF;rw[e25] at hF;refine n22 ?_;refine oG fun n27=>W.r ?_;refine oA 46 (.int .u64 t11) ?_;refine oA 47 (.int .u64 t11) ?_;refine oA 48 (.agg ([.bool false,.int .u64 t11,.int .u64 t11]:List AV)) ?_;refine oW 91 (.agg ([.bool false,.int .u64 t11,.int .u64 t11]:List AV)) hF fun h_28 hF=>?_;refine oV [(4,(z7 h_2))] (n27 (oY ?_));obtain⟨w4,e30,hF⟩:=z4 hF;exact lZ hF [.cell 4 91] [.agg w4] (rY e30 zf)
 refine yd (by kernel_rfl) (fun K24 n24 s24 o24 q24 p24=>?_);refine y17 (by kernel_rfl) (fun I31 K31 b31 n31 e31 q31 p31=>?_)
 have L31:∀(m:Nat) (t19:Int) (h_32:AHeap),z84 t0 v3 t11 k25 m t19 h_32=some (rR,hR)→Go w0 m0 (Func.ntmps Tryd.f38) I31 [(0,t0),(3,v3),(4,(z7 h_2)),(5,.int .u64 t11),(19,.int .i64 t19)] [] h_32:=by
  intro m
  induction m with
  |zero=>intro t19 h_32 hF;cases hF
  |succ m ih31=>
   intro t19 h_32 hF;rw[zd4] at hF;unfold z78 at hF;refine b31 ?_;refine oG fun n33=>W.r ?_;refine oB 20 hF fun t20 hF=>?_;refine oV [(0,t0),(3,v3),(4,(z7 h_2)),(5,.int .u64 t11),(19,.int .i64 t19),(20,.bool t20)] (n33 ?_);refine W.s (fun K35 n35 e35 q35 p35=>?_)
   cases t20 with
   |true=>
    refine oT hF fun hF=>?_;refine oZ (n35 ?_);refine oG fun n36=>?_;refine yd (by kernel_rfl) (fun K37 n37 s37 o37 q37 p37=>?_);refine oG fun n38=>W.r ?_;refine oA 21 (.int .i64 t19) ?_;refine oA 6 (.int .i64 t19) ?_;refine oV [(0,t0),(3,v3),(4,(z7 h_2)),(5,.int .u64 t11),(6,.int .i64 t19),(19,.int .i64 t19)] (n38 ?_);refine oG fun n39=>W.r ?_;refine oA 22 (.int .i64 t19) ?_;obtain⟨t23,e40,hF⟩:=z4 hF;refine WL.b (some 23) (.int .i64 t23) h_32 (z491 (P:=Tryd.prog) (h:=h_32) (t:=3) (lit:=true) e40) ?_;refine oQ 24 76 72 .i64 hF fun t24 hF=>?_;refine oLi 25 72 hF fun t25 hF=>?_;refine oA 26 (.int .i64 t19) ?_;obtain⟨t27,e44,hF⟩:=z4 hF;refine WL.b (some 27) (.int .i64 t27) h_32 (z48d (P:=Tryd.prog) (h:=h_32) (t:=3) (lit:=true) e44) ?_;obtain⟨t28,e45,hF⟩:=z4 hF;refine WL.b (some 28) (.int .u64 t28) h_32 (z3cf (P:=Tryd.prog) (h:=h_32) (t:=72) (k':=.i64) (lit:=false) e45) ?_;refine oI 29 .u64 hF fun t29 hF=>?_;refine oB 30 hF fun t30 hF=>?_;refine oV [(0,t0),(3,v3),(4,(z7 h_2)),(5,.int .u64 t11),(6,.int .i64 t19),(19,.int .i64 t19),(30,.bool t30)] (n39 ?_);obtain⟨k48,e48,hF⟩:=zc hF
    have J48:∀(h_49:AHeap),k48 h_49=some (rR,hR)→Go w0 m0 (Func.ntmps Tryd.f38) (K37 .normal) [(0,t0),(3,v3),(4,(z7 h_2)),(5,.int .u64 t11),(19,.int .i64 t19)] [] h_49:=by
     intro h_49 hF;rw[e48] at hF;refine n37 (n36 (W.r ?_));refine oI 45 .i64 hF fun t45 hF=>?_;refine oA 19 (.int .i64 t45) ?_;refine oV [(0,t0),(3,v3),(4,(z7 h_2)),(5,.int .u64 t11),(19,.int .i64 t45)] (n31 ?_);exact gW _ (ih31 _ _ hF)
    cases t30 with
    |true=>
     refine oT hF fun hF=>?_;refine y1e (by kernel_rfl) (hc.ok w0) (plan:=[0,1,2,3,4,5,6,7,8,9,10,11,12,13,14]) (by kernel_rfl) (by kernel_rfl) (by kernel_rfl) ?_;refine WD.a 0 (some 31) t0 h_32 ?_;obtain⟨t32,e51,hF⟩:=z4 hF;refine WD.b 0 (some 32) t32 h_32 (z2c (h:=h_32) e51) ?_;obtain⟨t33,e52,hF⟩:=z4 hF;refine WD.b 0 (some 33) t33 h_32 (z1b (P:=Tryd.prog) (h:=h_32) (s:=89) (f:=0) (by kernel_rfl) e52) ?_;obtain⟨v34,e53,hF⟩:=z4 hF;refine WD.b 1 (some 34) v34 h_32 (z15 (P:=Tryd.prog) (h:=h_32) (t:=52) (by kernel_rfl) e53) ?_;refine WD.a 0 (some 35) (.int .i64 t19) h_32 ?_;obtain⟨t36,e54,hF⟩:=z4 hF;refine WD.b 0 (some 36) t36 h_32 (z2c (h:=h_32) e54) ?_;obtain⟨t37,e55,hF⟩:=z4 hF;refine WD.b 0 (some 37) t37 h_32 (z1b (P:=Tryd.prog) (h:=h_32) (s:=87) (f:=4) (by kernel_rfl) e55) ?_;obtain⟨t38,e56,hF⟩:=z4 hF;refine WD.b 0 (some 38) t38 h_32 (zf9 (P:=Tryd.prog) (h:=h_32) (t:=85) (e':=72) (k:=.i64) (by kernel_rfl) (by kernel_rfl) (by kernel_rfl) e56) ?_
     replace hF:=z4 hF;obtain⟨v39,e57,hF⟩:=hF
     replace hF:=z4 hF;obtain⟨t39,c58,hF⟩:=hF
     have c58:=z1a c58;subst c58;refine WD.b 1 (some 39) (.int .u64 t39) h_32 (z15 (P:=Tryd.prog) (h:=h_32) (t:=72) (by kernel_rfl) e57) ?_;refine WD.a 0 (some 40) (.int .u64 t11) h_32 ?_;obtain⟨t41,e59,hF⟩:=zc hF;refine WD.val (d:=(some 41)) (v:=.int .u64 t41) (h':=h_32) (by kernel_rfl) (by kernel_rfl) (z107 (AV.int .u64) e59 (by kernel_rfl)) (k:=0) (by kernel_rfl) (fun e=>absurd e (by decide)) (by decide) ?_;obtain⟨t42,e60,hF⟩:=z4 hF;refine WD.b 0 (some 42) t42 h_32 (z2c (h:=h_32) e60) ?_;obtain⟨t43,e61,hF⟩:=z4 hF;refine WD.b 0 (some 43) t43 h_32 (z1b (P:=Tryd.prog) (h:=h_32) (s:=87) (f:=4) (by kernel_rfl) e61) ?_;obtain⟨t44,e62,hF⟩:=z4 hF;refine WD.b 0 (some 44) t44 h_32 (zf9 (P:=Tryd.prog) (h:=h_32) (t:=85) (e':=72) (k:=.i64) (by kernel_rfl) (by kernel_rfl) (by kernel_rfl) e62) ?_;obtain⟨h_63,e64,hF⟩:=z4 hF;refine WD.eff (h':=h_63) (by kernel_rfl) (by kernel_rfl) (Eq.trans (by kernel_rfl) (z3d (P:=Tryd.prog) (h:=h_32) (t:=72) (v:=(.int .u64 t41)) (by kernel_rfl) (by kernel_rfl) e64)) (k:=2) (by kernel_rfl) (fun _=>(by kernel_rfl)) (by decide) ?_;refine WD.nil ?_;refine gW [(0,t0),(3,v3),(4,(z7 h_2)),(5,.int .u64 t11),(19,.int .i64 t19)] ?_;exact gW _ (J48 _ hF)
    |false=>
     refine oU hF fun hF=>?_;refine oZ ?_;exact gW _ (J48 _ hF)
   |false=>
    refine oU hF fun hF=>?_;refine W.exit (by kernel_rfl) ?_;refine e35 (e31 ?_);refine s24 (by kernel_rfl) ?_;exact gW _ (J25 _ hF)
 exact gW _ (L31 _ _ _ hF)
noncomputable def z7f(call:zd)(_:Nat)(t0:AV)(t1:List AV)(t2:List AV)(h:AHeap):R:=outK (z116 h 91 (some (.agg t1))) fun v4 h_2=>outK (z116 h_2 91 (some (.agg t2))) fun v5 h_4=>lett (newH h_4 91 [.bool false,.int .u64 0,.int .u64 0]) fun h_6=>obind (z4d 2 v4) fun t9=>obind (z9 h_6 t9) fun v10=>obind (avInt .u64 v10) fun t10=>obind (z4d 1 v5) fun t11=>obind (z9 h_6 t11) fun v12=>obind (avInt .u64 v12) fun t12=>callN (call 40 [t0,.int .u64 t10,.int .u64 t12] h_6) fun _ h_15=>obind (z4d 0 v4) fun t14=>obind (z9 h_15 t14) fun v15=>obind (z23 v15) fun t15=>lett (fun (t19:Bool) (h_21:AHeap)=>obind (z4d 1 v4) fun t20=>obind (z9 h_21 t20) fun v21=>obind (avInt .u64 v21) fun t21=>obind (z4d 2 v5) fun t22=>obind (z9 h_21 t22) fun v23=>obind (avInt .u64 v23) fun t23=>lett (newH h_21 91 [.bool false,.int .u64 0,.int .u64 0]) fun h_30=>obind (z17 h_30 3 ([.bool t19,.int .u64 t21,.int .u64 t23]:List AV) (z7 h_21)) fun h_32=>obind (z4d 0 v4) fun t25=>obind (z9 h_32 t25) fun v26=>obind (z23 v26) fun t26=>lett (fun (h_40:AHeap)=>obind (z4d 0 v5) fun t33=>obind (z9 h_40 t33) fun v34=>obind (z23 v34) fun t34=>lett (fun (h_47:AHeap)=>obind (z18 h_47 3 (z7 h_21)) fun t41=>obind (z17 h_47 3 t41 (z7 h_4)) fun h_50=>obind (z18 h_50 3 (z7 h_4)) fun w6=>some (.ret (.agg w6),h_50)) fun k46=>ifB t34 (obind (z9 h_40 (AV.ptr (AHeap.next h_21) 2)) fun v36=>obind (avInt .u64 v36) fun t36=>obind (z4d 2 v4) fun t37=>obind (z9 h_40 t37) fun v38=>obind (avInt .u64 v38) fun t38=>lett (orI .u64 t36 t38) fun (t39:Int)=>obind (z17 h_40 1 [.int .u64 t39] (AV.ptr (AHeap.next h_21) 2)) fun h_59=>k46 h_59) (k46 h_40)) fun k39=>ifB t26 (obind (z9 h_32 (AV.ptr (AHeap.next h_21) 1)) fun v28=>obind (avInt .u64 v28) fun t28=>obind (z4d 1 v5) fun t29=>obind (z9 h_32 t29) fun v30=>obind (avInt .u64 v30) fun t30=>lett (orI .u64 t28 t30) fun (t31:Int)=>obind (z17 h_32 1 [.int .u64 t31] (AV.ptr (AHeap.next h_21) 1)) fun h_67=>k39 h_67) (k39 h_32)) fun j19=>ifB t15 (obind (z4d 0 v5) fun t17=>obind (z9 h_15 t17) fun v18=>obind (z23 v18) fun t18=>j19 t18 h_15) (j19 false h_15)
set_option maxHeartbeats 4000000 in
set_option maxRecDepth 20000 in
theorem z1d3{call:zd}(hc:SaysAll Tryd.prog call){n:Nat}{t0:AV}{t1:List AV}{t2:List AV}{h:AHeap}{rR:ARes}{hR:AHeap}(hF:z7f call n t0 t1 t2 h=some (rR,hR)):Says Tryd.prog 39 [t0,.agg t1,.agg t2] h rR hR:=by
 unfold z7f at hF;refine sO Tryd.func39 fun w0 m0=>?_;refine wW [(0,t0),(1,.agg t1),(2,.agg t2)] ?_;refine oG fun n1=>W.r ?_;refine oK 4 hF fun v4 h_2 hF=>?_;refine oK 5 hF fun v5 h_4 hF=>?_;refine oN 6 hF fun h_6 hF=>?_;refine oV [(0,t0),(4,v4),(5,v5),(6,(z7 h_4))] (n1 ?_);refine oG fun n8=>W.r ?_;refine oA 8 t0 ?_;refine oF 9 91 2 hF fun t9 hF=>?_;refine oLi 10 72 hF fun t10 hF=>?_;refine oF 11 91 1 hF fun t11 hF=>?_;refine oLi 12 72 hF fun t12 hF=>?_;refine oC hc (some 13) hF fun r13 h_15 hF=>?_;refine oV [(4,v4),(5,v5),(6,(z7 h_4))] (n8 ?_);refine W.s (fun K17 n17 e17 q17 p17=>?_);refine W.r ?_;refine oF 14 91 0 hF fun t14 hF=>?_;refine oLb 15 4 hF fun t15 hF=>?_;refine oA 16 (.bool t15) ?_;obtain⟨j19,e22,hF⟩:=zc hF
 have J23:∀(t19:Bool) (h_21:AHeap),j19 t19 h_21=some (rR,hR)→WL Tryd.prog w0 m0 (Func.ntmps Tryd.f39) (Code.ops (y6 (y3 (y3 (z4e Tryd.f39))))) 6 K17 [(4,v4),(5,v5),(6,(z7 h_4)),(19,.bool t19)] [] h_21:=by
  intro t19 h_21 hF;rw[e22] at hF;refine oF 20 91 1 hF fun t20 hF=>?_;refine oLi 21 72 hF fun t21 hF=>?_;refine oF 22 91 2 hF fun t22 hF=>?_;refine oLi 23 72 hF fun t23 hF=>?_;refine oA 24 (.agg ([.bool t19,.int .u64 t21,.int .u64 t23]:List AV)) ?_;refine oN 7 hF fun h_30 hF=>?_;refine oW 91 (.agg ([.bool t19,.int .u64 t21,.int .u64 t23]:List AV)) hF fun h_32 hF=>?_;refine oV [(4,v4),(5,v5),(6,(z7 h_4)),(7,(z7 h_21))] (n17 ?_);refine W.s (fun K34 n34 e34 q34 p34=>?_);refine oG fun n35=>W.r ?_;refine oF 25 91 0 hF fun t25 hF=>?_;refine oLb 26 4 hF fun t26 hF=>?_;refine oV [(4,v4),(5,v5),(6,(z7 h_4)),(7,(z7 h_21)),(26,.bool t26)] (n35 ?_);obtain⟨k39,e39,hF⟩:=zc hF
  have J39:∀(h_40:AHeap),k39 h_40=some (rR,hR)→Go w0 m0 (Func.ntmps Tryd.f39) (K34 .normal) [(4,v4),(5,v5),(6,(z7 h_4)),(7,(z7 h_21))] [] h_40:=by
   intro h_40 hF;rw[e39] at hF;refine n34 ?_;refine W.s (fun K41 n41 e41 q41 p41=>?_);refine oG fun n42=>W.r ?_;refine oF 33 91 0 hF fun t33 hF=>?_;refine oLb 34 4 hF fun t34 hF=>?_;refine oV [(4,v4),(6,(z7 h_4)),(7,(z7 h_21)),(34,.bool t34)] (n42 ?_);obtain⟨k46,e46,hF⟩:=zc hF
   have J46:∀(h_47:AHeap),k46 h_47=some (rR,hR)→Go w0 m0 (Func.ntmps Tryd.f39) (K41 .normal) [(6,(z7 h_4)),(7,(z7 h_21))] [] h_47:=by
    intro h_47 hF;rw[e46] at hF;refine n41 ?_;refine oG fun n48=>W.r ?_;refine oR 41 91 hF fun t41 hF=>?_;refine oW 91 (.agg t41) hF fun h_50 hF=>?_;refine oV [(6,(z7 h_4))] (n48 (oY ?_));obtain⟨w6,e52,hF⟩:=z4 hF;exact lZ hF [.cell 6 91] [.agg w6] (rY e52 zf)
   cases t34 with
   |true=>
    refine oT hF fun hF=>?_;refine W.r ?_;refine oA 35 (AV.ptr (AHeap.next h_21) 2) ?_;refine oLi 36 72 hF fun t36 hF=>?_;refine oF 37 91 2 hF fun t37 hF=>?_;refine oLi 38 72 hF fun t38 hF=>?_;refine oI 39 .u64 hF fun t39 hF=>?_;refine oA 40 (AV.ptr (AHeap.next h_21) 2) ?_;refine oW 72 (.int .u64 t39) hF fun h_59 hF=>?_;refine oV [(6,(z7 h_4)),(7,(z7 h_21))] ?_;exact gW _ (J46 _ hF)
   |false=>
    refine oU hF fun hF=>?_;refine oZ ?_;exact gW _ (J46 _ hF)
  cases t26 with
  |true=>
   refine oT hF fun hF=>?_;refine W.r ?_;refine oA 27 (AV.ptr (AHeap.next h_21) 1) ?_;refine oLi 28 72 hF fun t28 hF=>?_;refine oF 29 91 1 hF fun t29 hF=>?_;refine oLi 30 72 hF fun t30 hF=>?_;refine oI 31 .u64 hF fun t31 hF=>?_;refine oA 32 (AV.ptr (AHeap.next h_21) 1) ?_;refine oW 72 (.int .u64 t31) hF fun h_67 hF=>?_;refine oV [(4,v4),(5,v5),(6,(z7 h_4)),(7,(z7 h_21))] ?_;exact gW _ (J39 _ hF)
  |false=>
   refine oU hF fun hF=>?_;refine oZ ?_;exact gW _ (J39 _ hF)
 cases t15 with
 |true=>
  replace hF:=zae hF
  refine oF 17 91 0 hF fun t17 hF=>?_;refine oLb 18 4 hF fun t18 hF=>?_;refine oA 19 (.bool t18) ?_;exact lW _ (J23 _ _ hF)
 |false=>
  replace hF:=zaf hF
  refine WL.o (some 17) ?_;refine WL.o (some 18) ?_;refine oA 19 (.bool false) ?_;exact lW _ (J23 _ _ hF)
noncomputable def z6b(t0:AV)(t1:Int)(t2:Int)(k3:AHeap→R)(self:Int→AHeap→R)(t7:Int)(h_6:AHeap):R:=lett (decide (t7<64)) fun (t8:Bool)=>ifB t8 (obind (shrI .u64 t1 t7) fun t12=>lett (z3bd .u64 t12 1) fun (t13:Int)=>lett ((t13:Int) == 1) fun (t14:Bool)=>lett (fun (h_18:AHeap)=>lett (IntKind.i64.wrap (t7+1)) fun (t29:Int)=>self t29 h_18) fun k17=>ifB t14 (obind (z74 t0) fun t16=>obind (z4d 0 t16) fun t17=>obind (z9 h_6 t17) fun v18=>obind (z74 v18) fun t20=>obind (z4d 3 t20) fun t21=>obind (z31a 64 1 t21 t7) fun t22=>obind (z9 h_6 t22) fun v23=>obind (avInt .u64 v23) fun t23=>lett (orI .u64 t23 t2) fun (t25:Int)=>obind (z74 v18) fun t26=>obind (z4d 3 t26) fun t27=>obind (z31a 64 1 t27 t7) fun t28=>obind (z17 h_6 1 [.int .u64 t25] t28) fun h_32=>k17 h_32) (k17 h_6)) (k3 h_6)
noncomputable def z79(t0:AV)(t1:Int)(t2:Int)(k3:AHeap→R):Nat→Int→AHeap→R:=z103 (fun _ _=>none) (z6b t0 t1 t2 k3)
theorem zc2(t0:AV)(t1:Int)(t2:Int)(k3:AHeap→R)(m:Nat):z79 t0 t1 t2 k3 (m+1)=z6b t0 t1 t2 k3 (z79 t0 t1 t2 k3 m):=rfl
noncomputable def z7e(_:zd)(n:Nat)(t0:AV)(t1:Int)(t2:Int)(h:AHeap):R:=lett (fun (h_4:AHeap)=>some (.ret (.tup []),h_4)) fun k3=>z79 t0 t1 t2 k3 n 0 h
set_option maxHeartbeats 4000000 in
set_option maxRecDepth 20000 in
theorem z1d2{call:zd}(hc:SaysAll Tryd.prog call){n:Nat}{t0:AV}{t1:Int}{t2:Int}{h:AHeap}{rR:ARes}{hR:AHeap}(hF:z7e call n t0 t1 t2 h=some (rR,hR)):Says Tryd.prog 40 [t0,.int .u64 t1,.int .u64 t2] h rR hR:=by
 unfold z7e at hF;refine sO Tryd.func40 fun w0 m0=>?_;refine wW [(0,t0),(1,.int .u64 t1),(2,.int .u64 t2)] ?_;refine oG fun n1=>W.r ?_;refine oA 7 (.int .i64 0) ?_;refine oV [(0,t0),(1,.int .u64 t1),(2,.int .u64 t2),(7,.int .i64 0)] (n1 ?_);obtain⟨k3,e3,hF⟩:=zc hF
 have J3:∀(h_4:AHeap),k3 h_4=some (rR,hR)→Go w0 m0 (Func.ntmps Tryd.f40) (Fin Tryd.prog Tryd.f40 w0 m0 rR hR .normal) [] [] h_4:=by
  intro h_4 hF;rw[e3] at hF;exact lY hF [] [] zf
 refine yd (by kernel_rfl) (fun K2 n2 s2 o2 q2 p2=>?_);refine y17 (by kernel_rfl) (fun I5 K5 b5 n5 e5 q5 p5=>?_)
 have L5:∀(m:Nat) (t7:Int) (h_6:AHeap),z79 t0 t1 t2 k3 m t7 h_6=some (rR,hR)→Go w0 m0 (Func.ntmps Tryd.f40) I5 [(0,t0),(1,.int .u64 t1),(2,.int .u64 t2),(7,.int .i64 t7)] [] h_6:=by
  intro m
  induction m with
  |zero=>intro t7 h_6 hF;cases hF
  |succ m ih5=>
   intro t7 h_6 hF;rw[zc2] at hF;unfold z6b at hF;refine b5 ?_;refine oG fun n7=>W.r ?_;refine oB 8 hF fun t8 hF=>?_;refine oV [(0,t0),(1,.int .u64 t1),(2,.int .u64 t2),(7,.int .i64 t7),(8,.bool t8)] (n7 ?_);refine W.s (fun K9 n9 e9 q9 p9=>?_)
   cases t8 with
   |true=>
    refine oT hF fun hF=>?_;refine oZ (n9 ?_);refine oG fun n10=>?_;refine yd (by kernel_rfl) (fun K11 n11 s11 o11 q11 p11=>?_);refine oG fun n12=>W.r ?_;refine oA 9 (.int .i64 t7) ?_;refine oA 6 (.int .i64 t7) ?_;refine oV [(0,t0),(1,.int .u64 t1),(2,.int .u64 t2),(6,.int .i64 t7),(7,.int .i64 t7)] (n12 ?_);refine oG fun n13=>W.r ?_;refine oA 10 (.int .u64 t1) ?_;refine oA 11 (.int .i64 t7) ?_;obtain⟨t12,e14,hF⟩:=z4 hF;refine WL.b (some 12) (.int .u64 t12) h_6 (z3cf (P:=Tryd.prog) (h:=h_6) (t:=72) (k':=.i64) (lit:=false) e14) ?_;refine oI 13 .u64 hF fun t13 hF=>?_;refine oB 14 hF fun t14 hF=>?_;refine oV [(0,t0),(1,.int .u64 t1),(2,.int .u64 t2),(6,.int .i64 t7),(7,.int .i64 t7),(14,.bool t14)] (n13 ?_);obtain⟨k17,e17,hF⟩:=zc hF
    have J17:∀(h_18:AHeap),k17 h_18=some (rR,hR)→Go w0 m0 (Func.ntmps Tryd.f40) (K11 .normal) [(0,t0),(1,.int .u64 t1),(2,.int .u64 t2),(7,.int .i64 t7)] [] h_18:=by
     intro h_18 hF;rw[e17] at hF;refine n11 (n10 (W.r ?_));refine oI 29 .i64 hF fun t29 hF=>?_;refine oA 7 (.int .i64 t29) ?_;refine oV [(0,t0),(1,.int .u64 t1),(2,.int .u64 t2),(7,.int .i64 t29)] (n5 ?_);exact gW _ (ih5 _ _ hF)
    cases t14 with
    |true=>
     refine oT hF fun hF=>?_;refine y1e (by kernel_rfl) (hc.ok w0) (plan:=[0,1,2,3,4,5,6,7,8,9,10,11,12,13,14]) (by kernel_rfl) (by kernel_rfl) (by kernel_rfl) ?_;refine WD.a 0 (some 15) t0 h_6 ?_;obtain⟨t16,e20,hF⟩:=z4 hF;refine WD.b 0 (some 16) t16 h_6 (z2c (h:=h_6) e20) ?_;obtain⟨t17,e21,hF⟩:=z4 hF;refine WD.b 0 (some 17) t17 h_6 (z1b (P:=Tryd.prog) (h:=h_6) (s:=89) (f:=0) (by kernel_rfl) e21) ?_;obtain⟨v18,e22,hF⟩:=z4 hF;refine WD.b 1 (some 18) v18 h_6 (z15 (P:=Tryd.prog) (h:=h_6) (t:=52) (by kernel_rfl) e22) ?_;refine WD.a 0 (some 19) (.int .i64 t7) h_6 ?_;obtain⟨t20,e23,hF⟩:=z4 hF;refine WD.b 0 (some 20) t20 h_6 (z2c (h:=h_6) e23) ?_;obtain⟨t21,e24,hF⟩:=z4 hF;refine WD.b 0 (some 21) t21 h_6 (z1b (P:=Tryd.prog) (h:=h_6) (s:=87) (f:=3) (by kernel_rfl) e24) ?_;obtain⟨t22,e25,hF⟩:=z4 hF;refine WD.b 0 (some 22) t22 h_6 (zf9 (P:=Tryd.prog) (h:=h_6) (t:=84) (e':=72) (k:=.i64) (by kernel_rfl) (by kernel_rfl) (by kernel_rfl) e25) ?_
     replace hF:=z4 hF;obtain⟨v23,e26,hF⟩:=hF
     replace hF:=z4 hF;obtain⟨t23,c27,hF⟩:=hF
     have c27:=z1a c27;subst c27;refine WD.b 1 (some 23) (.int .u64 t23) h_6 (z15 (P:=Tryd.prog) (h:=h_6) (t:=72) (by kernel_rfl) e26) ?_;refine WD.a 0 (some 24) (.int .u64 t2) h_6 ?_;obtain⟨t25,e28,hF⟩:=zc hF;refine WD.val (d:=(some 25)) (v:=.int .u64 t25) (h':=h_6) (by kernel_rfl) (by kernel_rfl) (z107 (AV.int .u64) e28 (by kernel_rfl)) (k:=0) (by kernel_rfl) (fun e=>absurd e (by decide)) (by decide) ?_;obtain⟨t26,e29,hF⟩:=z4 hF;refine WD.b 0 (some 26) t26 h_6 (z2c (h:=h_6) e29) ?_;obtain⟨t27,e30,hF⟩:=z4 hF;refine WD.b 0 (some 27) t27 h_6 (z1b (P:=Tryd.prog) (h:=h_6) (s:=87) (f:=3) (by kernel_rfl) e30) ?_;obtain⟨t28,e31,hF⟩:=z4 hF;refine WD.b 0 (some 28) t28 h_6 (zf9 (P:=Tryd.prog) (h:=h_6) (t:=84) (e':=72) (k:=.i64) (by kernel_rfl) (by kernel_rfl) (by kernel_rfl) e31) ?_;obtain⟨h_32,e33,hF⟩:=z4 hF;refine WD.eff (h':=h_32) (by kernel_rfl) (by kernel_rfl) (Eq.trans (by kernel_rfl) (z3d (P:=Tryd.prog) (h:=h_6) (t:=72) (v:=(.int .u64 t25)) (by kernel_rfl) (by kernel_rfl) e33)) (k:=2) (by kernel_rfl) (fun _=>(by kernel_rfl)) (by decide) ?_;refine WD.nil ?_;refine gW [(0,t0),(1,.int .u64 t1),(2,.int .u64 t2),(7,.int .i64 t7)] ?_;exact gW _ (J17 _ hF)
    |false=>
     refine oU hF fun hF=>?_;refine oZ ?_;exact gW _ (J17 _ hF)
   |false=>
    refine oU hF fun hF=>?_;refine W.exit (by kernel_rfl) ?_;refine e9 (e5 ?_);refine s2 (by kernel_rfl) ?_;exact gW _ (J3 _ hF)
 exact gW _ (L5 _ _ _ hF)
noncomputable def zca(t11:List AV)(k8:Int→AHeap→R)(self:Int→Int→AHeap→R)(t2_70:Int)(t12:Int)(h_71:AHeap):R:=lett (decide (t12<256)) fun (t13:Bool)=>ifB t13 (outK (zdf Tryd.prog h_71 85 (some (.agg t11)) (some (.int .i64 t12))) fun v14 h_78=>obind (avInt .u64 v14) fun t14=>lett (orI .u64 t2_70 t14) fun (t17:Int)=>lett (IntKind.i64.wrap (t12+1)) fun (t18:Int)=>self t17 t18 h_78) (k8 t2_70 h_71)
noncomputable def ze0(t11:List AV)(k8:Int→AHeap→R):Nat→Int→Int→AHeap→R:=z103 (fun _ _ _=>none) (zca t11 k8)
theorem z127(t11:List AV)(k8:Int→AHeap→R)(m:Nat):ze0 t11 k8 (m+1)=zca t11 k8 (ze0 t11 k8 m):=rfl
noncomputable def zfe(call:zd)(t0:AV)(t2:Int)(k19:Int→AHeap→R)(self:Int→Int→AHeap→R)(t5_56:Int)(t6:Int)(h_57:AHeap):R:=lett ((t6:Int) != 0) fun (t27:Bool)=>ifB t27 (callN (call 41 [t0,.int .u64 t5_56] h_57) fun r30 h_63=>obind (avInt .u64 r30) fun t30=>lett (z3bd .u64 t30 t2) fun (t32:Int)=>lett (z367 .u64 t32 t5_56) fun (t34:Int)=>lett (orI .u64 t5_56 t34) fun (t37:Int)=>self t37 t34 h_63) (k19 t5_56 h_57)
noncomputable def ze1(call:zd)(t0:AV)(t2:Int)(k19:Int→AHeap→R):Nat→Int→Int→AHeap→R:=z103 (fun _ _ _=>none) (zfe call t0 t2 k19)
theorem z18d(call:zd)(t0:AV)(t2:Int)(k19:Int→AHeap→R)(m:Nat):ze1 call t0 t2 k19 (m+1)=zfe call t0 t2 k19 (ze1 call t0 t2 k19 m):=rfl
noncomputable def zcb(t0:AV)(t5:Int)(k33:AHeap→R)(self:Int→AHeap→R)(t46:Int)(h_36:AHeap):R:=lett (decide (t46<256)) fun (t47:Bool)=>ifB t47 (obind (z74 t0) fun t51=>obind (z4d 67 t51) fun t52=>obind (z31a 256 1 t52 t46) fun t53=>obind (z9 h_36 t53) fun v54=>obind (avInt .u64 v54) fun t54=>lett (z3bd .u64 t54 t5) fun (t56:Int)=>obind (z74 t0) fun t57=>obind (z4d 67 t57) fun t58=>obind (z31a 256 1 t58 t46) fun t59=>obind (z17 h_36 1 [.int .u64 t56] t59) fun h_52=>lett (IntKind.i64.wrap (t46+1)) fun (t60:Int)=>self t60 h_52) (k33 h_36)
noncomputable def ze2(t0:AV)(t5:Int)(k33:AHeap→R):Nat→Int→AHeap→R:=z103 (fun _ _=>none) (zcb t0 t5 k33)
theorem z128(t0:AV)(t5:Int)(k33:AHeap→R)(m:Nat):ze2 t0 t5 k33 (m+1)=zcb t0 t5 k33 (ze2 t0 t5 k33 m):=rfl
noncomputable def z10f(call:zd)(n:Nat)(t0:AV)(h:AHeap):R:=obind (z74 t0) fun t9=>obind (z4d 67 t9) fun t10=>obind (z18 h 256 t10) fun t11=>lett (fun (t2:Int) (h_9:AHeap)=>obind (z74 t0) fun t20=>obind (z4d 2 t20) fun t21=>obind (z9 h_9 t21) fun v22=>obind (avInt .u64 v22) fun t22=>lett (z3bd .u64 t22 t2) fun (t24:Int)=>lett (fun (t5:Int) (h_20:AHeap)=>obind (z74 t0) fun t39=>obind (z4d 1 t39) fun t40=>obind (z9 h_20 t40) fun v41=>obind (avInt .u64 v41) fun t41=>lett (z3bd .u64 t41 t5) fun (t43:Int)=>obind (z74 t0) fun t44=>obind (z4d 1 t44) fun t45=>obind (z17 h_20 1 [.int .u64 t43] t45) fun h_29=>lett (fun (h_34:AHeap)=>some (.ret (.tup []),h_34)) fun k33=>ze2 t0 t5 k33 n 0 h_29) fun k19=>ze1 call t0 t2 k19 n t24 t24 h_9) fun k8=>ze0 t11 k8 n 0 0 h
set_option maxHeartbeats 4000000 in
set_option maxRecDepth 20000 in
theorem z2c9{call:zd}(hc:SaysAll Tryd.prog call){n:Nat}{t0:AV}{h:AHeap}{rR:ARes}{hR:AHeap}(hF:z10f call n t0 h=some (rR,hR)):Says Tryd.prog 31 [t0] h rR hR:=by
 unfold z10f at hF;refine sO Tryd.func31 fun w0 m0=>?_;refine wW [(0,t0)] ?_;refine oG fun n1=>W.r ?_;refine oA 2 (.int .u64 0) ?_;refine oV [(0,t0),(2,.int .u64 0)] (n1 ?_);refine W.s (fun K2 n2 e2 q2 p2=>?_);refine oG fun n3=>W.r ?_;refine oA 8 t0 ?_;refine oC0 9 hF fun t9 hF=>?_;refine oF 10 87 4 hF fun t10 hF=>?_;refine oR 11 85 hF fun t11 hF=>?_;refine oA 12 (.int .i64 0) ?_;refine oV [(0,t0),(2,.int .u64 0),(11,.agg t11),(12,.int .i64 0)] (n3 ?_);obtain⟨k8,e8,hF⟩:=zc hF
 have J8:∀(t2:Int) (h_9:AHeap),k8 t2 h_9=some (rR,hR)→Go w0 m0 (Func.ntmps Tryd.f31) (K2 .normal) [(0,t0),(2,.int .u64 t2)] [] h_9:=by
  intro t2 h_9 hF;rw[e8] at hF;refine n2 ?_;refine oG fun n10=>W.r ?_;refine oA 19 t0 ?_;refine oC0 20 hF fun t20 hF=>?_;refine oF 21 87 2 hF fun t21 hF=>?_;refine oLi 22 72 hF fun t22 hF=>?_;refine oA 23 (.int .u64 t2) ?_;refine oI 24 .u64 hF fun t24 hF=>?_;refine oA 5 (.int .u64 t24) ?_;refine oV [(0,t0),(2,.int .u64 t2),(5,.int .u64 t24)] (n10 ?_);refine W.s (fun K16 n16 e16 q16 p16=>?_);refine oG fun n17=>W.r ?_;refine oA 25 (.int .u64 t24) ?_;refine oA 6 (.int .u64 t24) ?_;refine oV [(0,t0),(2,.int .u64 t2),(5,.int .u64 t24),(6,.int .u64 t24)] (n17 ?_);obtain⟨k19,e19,hF⟩:=zc hF
  have J19:∀(t5:Int) (h_20:AHeap),k19 t5 h_20=some (rR,hR)→Go w0 m0 (Func.ntmps Tryd.f31) (K16 .normal) [(0,t0),(5,.int .u64 t5)] [] h_20:=by
   intro t5 h_20 hF;rw[e19] at hF;refine n16 ?_;refine oG fun n21=>W.r ?_;refine oA 38 t0 ?_;refine oC0 39 hF fun t39 hF=>?_;refine oF 40 87 1 hF fun t40 hF=>?_;refine oLi 41 72 hF fun t41 hF=>?_;refine oA 42 (.int .u64 t5) ?_;refine oI 43 .u64 hF fun t43 hF=>?_;refine oC0 44 hF fun t44 hF=>?_;refine oF 45 87 1 hF fun t45 hF=>?_;refine oW 72 (.int .u64 t43) hF fun h_29 hF=>?_;refine oV [(0,t0),(5,.int .u64 t5)] (n21 ?_);refine oG fun n31=>W.r ?_;refine oA 46 (.int .i64 0) ?_;refine oV [(0,t0),(5,.int .u64 t5),(46,.int .i64 0)] (n31 ?_);obtain⟨k33,e33,hF⟩:=zc hF
   have J33:∀(h_34:AHeap),k33 h_34=some (rR,hR)→Go w0 m0 (Func.ntmps Tryd.f31) (Fin Tryd.prog Tryd.f31 w0 m0 rR hR .normal) [] [] h_34:=by
    intro h_34 hF;rw[e33] at hF;exact lY hF [] [] zf
   refine yd (by kernel_rfl) (fun K32 n32 s32 o32 q32 p32=>?_);refine y17 (by kernel_rfl) (fun I35 K35 b35 n35 e35 q35 p35=>?_)
   have L35:∀(m:Nat) (t46:Int) (h_36:AHeap),ze2 t0 t5 k33 m t46 h_36=some (rR,hR)→Go w0 m0 (Func.ntmps Tryd.f31) I35 [(0,t0),(5,.int .u64 t5),(46,.int .i64 t46)] [] h_36:=by
    intro m
    induction m with
    |zero=>intro t46 h_36 hF;cases hF
    |succ m ih35=>
     intro t46 h_36 hF;rw[z128] at hF;unfold zcb at hF;refine b35 ?_;refine oG fun n37=>W.r ?_;refine oB 47 hF fun t47 hF=>?_;refine oV [(0,t0),(5,.int .u64 t5),(46,.int .i64 t46),(47,.bool t47)] (n37 ?_);refine W.s (fun K39 n39 e39 q39 p39=>?_)
     cases t47 with
     |true=>
      refine oT hF fun hF=>?_;refine oZ (n39 ?_);refine oG fun n40=>?_;refine yd (by kernel_rfl) (fun K41 n41 s41 o41 q41 p41=>?_);refine oG fun n42=>W.r ?_;refine oA 48 (.int .i64 t46) ?_;refine oA 7 (.int .i64 t46) ?_;refine oV [(0,t0),(5,.int .u64 t5),(7,.int .i64 t46),(46,.int .i64 t46)] (n42 ?_);refine y1e (by kernel_rfl) (hc.ok w0) (plan:=[0,1,2,3,4,5,6,7,8,9,10,11]) (by kernel_rfl) (by kernel_rfl) (by kernel_rfl) ?_;refine WD.a 0 (some 49) t0 h_36 ?_;refine WD.a 0 (some 50) (.int .i64 t46) h_36 ?_;obtain⟨t51,e43,hF⟩:=z4 hF;refine WD.b 0 (some 51) t51 h_36 (z2c (h:=h_36) e43) ?_;obtain⟨t52,e44,hF⟩:=z4 hF;refine WD.b 0 (some 52) t52 h_36 (z1b (P:=Tryd.prog) (h:=h_36) (s:=87) (f:=4) (by kernel_rfl) e44) ?_;obtain⟨t53,e45,hF⟩:=z4 hF;refine WD.b 0 (some 53) t53 h_36 (zf9 (P:=Tryd.prog) (h:=h_36) (t:=85) (e':=72) (k:=.i64) (by kernel_rfl) (by kernel_rfl) (by kernel_rfl) e45) ?_
      replace hF:=z4 hF;obtain⟨v54,e46,hF⟩:=hF
      replace hF:=z4 hF;obtain⟨t54,c47,hF⟩:=hF
      have c47:=z1a c47;subst c47;refine WD.b 1 (some 54) (.int .u64 t54) h_36 (z15 (P:=Tryd.prog) (h:=h_36) (t:=72) (by kernel_rfl) e46) ?_;refine WD.a 0 (some 55) (.int .u64 t5) h_36 ?_;obtain⟨t56,e48,hF⟩:=zc hF;refine WD.val (d:=(some 56)) (v:=.int .u64 t56) (h':=h_36) (by kernel_rfl) (by kernel_rfl) (z107 (AV.int .u64) e48 (by kernel_rfl)) (k:=0) (by kernel_rfl) (fun e=>absurd e (by decide)) (by decide) ?_;obtain⟨t57,e49,hF⟩:=z4 hF;refine WD.b 0 (some 57) t57 h_36 (z2c (h:=h_36) e49) ?_;obtain⟨t58,e50,hF⟩:=z4 hF;refine WD.b 0 (some 58) t58 h_36 (z1b (P:=Tryd.prog) (h:=h_36) (s:=87) (f:=4) (by kernel_rfl) e50) ?_;obtain⟨t59,e51,hF⟩:=z4 hF;refine WD.b 0 (some 59) t59 h_36 (zf9 (P:=Tryd.prog) (h:=h_36) (t:=85) (e':=72) (k:=.i64) (by kernel_rfl) (by kernel_rfl) (by kernel_rfl) e51) ?_;obtain⟨h_52,e53,hF⟩:=z4 hF;refine WD.eff (h':=h_52) (by kernel_rfl) (by kernel_rfl) (Eq.trans (by kernel_rfl) (z3d (P:=Tryd.prog) (h:=h_36) (t:=72) (v:=(.int .u64 t56)) (by kernel_rfl) (by kernel_rfl) e53)) (k:=2) (by kernel_rfl) (fun _=>(by kernel_rfl)) (by decide) ?_;refine WD.nil ?_;refine gW [(0,t0),(5,.int .u64 t5),(46,.int .i64 t46)] (n41 (n40 (W.r ?_)));refine oI 60 .i64 hF fun t60 hF=>?_;refine oA 46 (.int .i64 t60) ?_;refine oV [(0,t0),(5,.int .u64 t5),(46,.int .i64 t60)] (n35 ?_);exact gW _ (ih35 _ _ hF)
     |false=>
      refine oU hF fun hF=>?_;refine W.exit (by kernel_rfl) ?_;refine e39 (e35 ?_);refine s32 (by kernel_rfl) ?_;exact gW _ (J33 _ hF)
   exact gW _ (L35 _ _ _ hF)
  refine yd (by kernel_rfl) (fun K18 n18 s18 o18 q18 p18=>?_);refine y17 (by kernel_rfl) (fun I55 K55 b55 n55 e55 q55 p55=>?_)
  have L55:∀(m:Nat) (t5_56:Int) (t6:Int) (h_57:AHeap),ze1 call t0 t2 k19 m t5_56 t6 h_57=some (rR,hR)→Go w0 m0 (Func.ntmps Tryd.f31) I55 [(0,t0),(2,.int .u64 t2),(5,.int .u64 t5_56),(6,.int .u64 t6)] [] h_57:=by
   intro m
   induction m with
   |zero=>intro t5_56 t6 h_57 hF;cases hF
   |succ m ih55=>
    intro t5_56 t6 h_57 hF;rw[z18d] at hF;unfold zfe at hF;refine b55 ?_;refine W.s (fun K58 n58 e58 q58 p58=>?_);refine oG fun n59=>W.r ?_;refine oA 26 (.int .u64 t6) ?_;refine oB 27 hF fun t27 hF=>?_;refine oV [(0,t0),(2,.int .u64 t2),(5,.int .u64 t5_56),(27,.bool t27)] (n59 ?_)
    cases t27 with
    |true=>
     refine oT hF fun hF=>?_;refine oZ (n58 ?_);refine yd (by kernel_rfl) (fun K61 n61 s61 o61 q61 p61=>?_);refine oG fun n62=>W.r ?_;refine oA 28 t0 ?_;refine oA 29 (.int .u64 t5_56) ?_;refine oCi hc 30 hF fun t30 h_63 hF=>?_;refine oA 31 (.int .u64 t2) ?_;refine oI 32 .u64 hF fun t32 hF=>?_;refine oA 33 (.int .u64 t5_56) ?_;refine oI 34 .u64 hF fun t34 hF=>?_;refine oA 6 (.int .u64 t34) ?_;refine oV [(0,t0),(2,.int .u64 t2),(5,.int .u64 t5_56),(6,.int .u64 t34)] (n62 (W.r ?_));refine oA 35 (.int .u64 t5_56) ?_;refine oA 36 (.int .u64 t34) ?_;refine oI 37 .u64 hF fun t37 hF=>?_;refine oA 5 (.int .u64 t37) ?_;refine oV [(0,t0),(2,.int .u64 t2),(5,.int .u64 t37),(6,.int .u64 t34)] (n61 (n55 ?_));exact gW _ (ih55 _ _ _ hF)
    |false=>
     refine oU hF fun hF=>?_;refine W.exit (by kernel_rfl) ?_;refine e58 (e55 ?_);refine s18 (by kernel_rfl) ?_;exact gW _ (J19 _ _ hF)
  exact gW _ (L55 _ _ _ _ hF)
 refine yd (by kernel_rfl) (fun K7 n7 s7 o7 q7 p7=>?_);refine y17 (by kernel_rfl) (fun I69 K69 b69 n69 e69 q69 p69=>?_)
 have L69:∀(m:Nat) (t2_70:Int) (t12:Int) (h_71:AHeap),ze0 t11 k8 m t2_70 t12 h_71=some (rR,hR)→Go w0 m0 (Func.ntmps Tryd.f31) I69 [(0,t0),(2,.int .u64 t2_70),(11,.agg t11),(12,.int .i64 t12)] [] h_71:=by
  intro m
  induction m with
  |zero=>intro t2_70 t12 h_71 hF;cases hF
  |succ m ih69=>
   intro t2_70 t12 h_71 hF;rw[z127] at hF;unfold zca at hF;refine b69 ?_;refine oG fun n72=>W.r ?_;refine oB 13 hF fun t13 hF=>?_;refine oV [(0,t0),(2,.int .u64 t2_70),(11,.agg t11),(12,.int .i64 t12),(13,.bool t13)] (n72 ?_);refine W.s (fun K74 n74 e74 q74 p74=>?_)
   cases t13 with
   |true=>
    refine oT hF fun hF=>?_;refine oZ (n74 ?_);refine oG fun n75=>?_;refine yd (by kernel_rfl) (fun K76 n76 s76 o76 q76 p76=>?_);refine oG fun n77=>W.r ?_
    replace hF:=z27 hF;obtain⟨v14,h_78,e79,hF⟩:=hF
    replace hF:=z4 hF;obtain⟨t14,c80,hF⟩:=hF
    have c80:=z1a c80;subst c80;refine WL.b (some 14) (.int .u64 t14) h_78 e79 ?_;refine oA 4 (.int .u64 t14) ?_;refine oV [(0,t0),(2,.int .u64 t2_70),(4,.int .u64 t14),(11,.agg t11),(12,.int .i64 t12)] (n77 (W.r ?_));refine oA 15 (.int .u64 t2_70) ?_;refine oA 16 (.int .u64 t14) ?_;refine oI 17 .u64 hF fun t17 hF=>?_;refine oA 2 (.int .u64 t17) ?_;refine oV [(0,t0),(2,.int .u64 t17),(11,.agg t11),(12,.int .i64 t12)] (n76 (n75 (W.r ?_)));refine oI 18 .i64 hF fun t18 hF=>?_;refine oA 12 (.int .i64 t18) ?_;refine oV [(0,t0),(2,.int .u64 t17),(11,.agg t11),(12,.int .i64 t18)] (n69 ?_);exact gW _ (ih69 _ _ _ hF)
   |false=>
    refine oU hF fun hF=>?_;refine W.exit (by kernel_rfl) ?_;refine e74 (e69 ?_);refine s7 (by kernel_rfl) ?_;exact gW _ (J8 _ _ hF)
 exact gW _ (L69 _ _ _ _ hF)
noncomputable def zb5(t1:Int)(t11:List AV)(k9:Int→AHeap→R)(self:Int→Int→AHeap→R)(t5_13:Int)(t12:Int)(h_14:AHeap):R:=lett (decide (t12<64)) fun (t13:Bool)=>ifB t13 (outK (zdf Tryd.prog h_14 84 (some (.agg t11)) (some (.int .i64 t12))) fun v15 h_21=>obind (avInt .u64 v15) fun t15=>lett (z3bd .u64 t15 t1) fun (t18:Int)=>lett ((t18:Int) != 0) fun (t19:Bool)=>lett (fun (t5_28:Int) (h_29:AHeap)=>lett (IntKind.i64.wrap (t12+1)) fun (t24:Int)=>self t5_28 t24 h_29) fun k27=>ifB t19 (obind (shlI .u64 1 t12) fun t22=>lett (orI .u64 t5_13 t22) fun (t23:Int)=>k27 t23 h_21) (k27 t5_13 h_21)) (k9 t5_13 h_14)
noncomputable def zcc(t1:Int)(t11:List AV)(k9:Int→AHeap→R):Nat→Int→Int→AHeap→R:=z103 (fun _ _ _=>none) (zb5 t1 t11 k9)
theorem z117(t1:Int)(t11:List AV)(k9:Int→AHeap→R)(m:Nat):zcc t1 t11 k9 (m+1)=zb5 t1 t11 k9 (zcc t1 t11 k9 m):=rfl
noncomputable def zeb(_:zd)(n:Nat)(t0:AV)(t1:Int)(h:AHeap):R:=obind (z74 t0) fun t9=>obind (z4d 3 t9) fun t10=>obind (z18 h 64 t10) fun t11=>lett (fun (t5:Int) (h_10:AHeap)=>some (.ret (.int .u64 t5),h_10)) fun k9=>zcc t1 t11 k9 n 0 0 h
set_option maxHeartbeats 4000000 in
set_option maxRecDepth 20000 in
theorem z296{call:zd}(_:SaysAll Tryd.prog call){n:Nat}{t0:AV}{t1:Int}{h:AHeap}{rR:ARes}{hR:AHeap}(hF:zeb call n t0 t1 h=some (rR,hR)):Says Tryd.prog 41 [t0,.int .u64 t1] h rR hR:=by
 unfold zeb at hF;refine sO Tryd.func41 fun w0 m0=>?_;refine wW [(0,t0),(1,.int .u64 t1)] ?_;refine oG fun n1=>W.r ?_;refine oA 4 (.int .u64 0) ?_;refine oV [(0,t0),(1,.int .u64 t1)] (n1 ?_);refine oG fun n2=>W.r ?_;refine oA 5 (.int .u64 0) ?_;refine oV [(0,t0),(1,.int .u64 t1),(5,.int .u64 0)] (n2 ?_);refine W.s (fun K3 n3 e3 q3 p3=>?_);refine oG fun n4=>W.r ?_;refine oA 8 t0 ?_;refine oC0 9 hF fun t9 hF=>?_;refine oF 10 87 3 hF fun t10 hF=>?_;refine oR 11 84 hF fun t11 hF=>?_;refine oA 12 (.int .i64 0) ?_;refine oV [(1,.int .u64 t1),(5,.int .u64 0),(11,.agg t11),(12,.int .i64 0)] (n4 ?_);obtain⟨k9,e9,hF⟩:=zc hF
 have J9:∀(t5:Int) (h_10:AHeap),k9 t5 h_10=some (rR,hR)→Go w0 m0 (Func.ntmps Tryd.f41) (K3 .normal) [(5,.int .u64 t5)] [] h_10:=by
  intro t5 h_10 hF;rw[e9] at hF;refine n3 ?_;refine oG fun n11=>W.r ?_;refine oA 25 (.int .u64 t5) ?_;refine oA 4 (.int .u64 t5) ?_;refine oV [(4,.int .u64 t5)] (n11 (oY ?_));exact lZ hF [.tmp 4] [.int .u64 t5] (rT zf)
 refine yd (by kernel_rfl) (fun K8 n8 s8 o8 q8 p8=>?_);refine y17 (by kernel_rfl) (fun I12 K12 b12 n12 e12 q12 p12=>?_)
 have L12:∀(m:Nat) (t5_13:Int) (t12:Int) (h_14:AHeap),zcc t1 t11 k9 m t5_13 t12 h_14=some (rR,hR)→Go w0 m0 (Func.ntmps Tryd.f41) I12 [(1,.int .u64 t1),(5,.int .u64 t5_13),(11,.agg t11),(12,.int .i64 t12)] [] h_14:=by
  intro m
  induction m with
  |zero=>intro t5_13 t12 h_14 hF;cases hF
  |succ m ih12=>
   intro t5_13 t12 h_14 hF;rw[z117] at hF;unfold zb5 at hF;refine b12 ?_;refine oG fun n15=>W.r ?_;refine oB 13 hF fun t13 hF=>?_;refine oV [(1,.int .u64 t1),(5,.int .u64 t5_13),(11,.agg t11),(12,.int .i64 t12),(13,.bool t13)] (n15 ?_);refine W.s (fun K17 n17 e17 q17 p17=>?_)
   cases t13 with
   |true=>
    refine oT hF fun hF=>?_;refine oZ (n17 ?_);refine oG fun n18=>?_;refine yd (by kernel_rfl) (fun K19 n19 s19 o19 q19 p19=>?_);refine oG fun n20=>W.r ?_;refine oA 14 (.int .i64 t12) ?_
    replace hF:=z27 hF;obtain⟨v15,h_21,e22,hF⟩:=hF
    replace hF:=z4 hF;obtain⟨t15,c23,hF⟩:=hF
    have c23:=z1a c23;subst c23;refine WL.b (some 15) (.int .u64 t15) h_21 e22 ?_;refine oA 6 (.int .i64 t12) ?_;refine oA 7 (.int .u64 t15) ?_;refine oV [(1,.int .u64 t1),(5,.int .u64 t5_13),(6,.int .i64 t12),(7,.int .u64 t15),(11,.agg t11),(12,.int .i64 t12)] (n20 ?_);refine oG fun n24=>W.r ?_;refine oA 16 (.int .u64 t15) ?_;refine oA 17 (.int .u64 t1) ?_;refine oI 18 .u64 hF fun t18 hF=>?_;refine oB 19 hF fun t19 hF=>?_;refine oV [(1,.int .u64 t1),(5,.int .u64 t5_13),(6,.int .i64 t12),(11,.agg t11),(12,.int .i64 t12),(19,.bool t19)] (n24 ?_);obtain⟨k27,e27,hF⟩:=zc hF
    have J27:∀(t5_28:Int) (h_29:AHeap),k27 t5_28 h_29=some (rR,hR)→Go w0 m0 (Func.ntmps Tryd.f41) (K19 .normal) [(1,.int .u64 t1),(5,.int .u64 t5_28),(11,.agg t11),(12,.int .i64 t12)] [] h_29:=by
     intro t5_28 h_29 hF;rw[e27] at hF;refine n19 (n18 (W.r ?_));refine oI 24 .i64 hF fun t24 hF=>?_;refine oA 12 (.int .i64 t24) ?_;refine oV [(1,.int .u64 t1),(5,.int .u64 t5_28),(11,.agg t11),(12,.int .i64 t24)] (n12 ?_);exact gW _ (ih12 _ _ _ hF)
    cases t19 with
    |true=>
     refine oT hF fun hF=>?_;refine W.r ?_;refine oA 20 (.int .u64 t5_13) ?_;refine oA 21 (.int .i64 t12) ?_;obtain⟨t22,e31,hF⟩:=z4 hF;refine WL.b (some 22) (.int .u64 t22) h_21 (z3d1 (P:=Tryd.prog) (h:=h_21) (t:=72) (k':=.i64) (lit:=true) e31) ?_;refine oI 23 .u64 hF fun t23 hF=>?_;refine oA 5 (.int .u64 t23) ?_;refine oV [(1,.int .u64 t1),(5,.int .u64 t23),(11,.agg t11),(12,.int .i64 t12)] ?_;exact gW _ (J27 _ _ hF)
    |false=>
     refine oU hF fun hF=>?_;refine oZ ?_;exact gW _ (J27 _ _ hF)
   |false=>
    refine oU hF fun hF=>?_;refine W.exit (by kernel_rfl) ?_;refine e17 (e12 ?_);refine s8 (by kernel_rfl) ?_;exact gW _ (J9 _ _ hF)
 exact gW _ (L12 _ _ _ _ hF)
end Go.Proofs.YtpdepoeanhibiaaDoor
