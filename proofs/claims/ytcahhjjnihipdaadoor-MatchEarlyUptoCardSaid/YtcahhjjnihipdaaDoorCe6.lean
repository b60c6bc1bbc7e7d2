/- What matchEarlyUpto_proved stands on, part 6 of 11. -/
import Derived.Test.YtcahhjjnihipdaaDoorCe5
import Derived.Test.YtcahhjjnihipdaaDoorRows
import Derived.WalkKit
import Derived.ProofKit
import Derived.OpenShut
import Derived.SizedLaws
import Derived.SliceStrings
namespace Go.Proofs.YtcahhjjnihipdaaDoor
open Go.ChangeShapes Go.WideShapes Go.ChangeAt Go.RowKit
open Go.ChangeMaps (open_string shut_string)
theorem Tryd.own:ownKnob Tryd.prog.godebug=none:=by kernel_rfl
theorem y59:laidOutB Tryd.prog=true:=by kernel_rfl
section
variable {H:Type}{enc:TypeId×Value→H}
theorem stays{P:Program}(hP:laidOutB P=true){W W':World}(hb:Below W.heap.size W W')(ts:List TypeId):∀(vs:List Value) (ds:List (DataW H)) (ps:List MemPlace),
  DataW.TrodAll enc P W 0 (fun _=>true) true ts vs ds ps→(∀t∈ts,P.readableRec t=true∧t<P.types.size)→(∀x∈ps,x.block<W.heap.size)→
  DataW.TrodAll enc P W' 0 (fun b=>decide (b<W.heap.size)) true ts vs ds ps:=by
 induction ts with
 |nil=>
  intro vs ds ps h _ _;obtain⟨rfl,rfl,rfl⟩:=trodAll_nil h;exact trodAll_mk0
 |cons t ts ih=>
  intro vs ds ps h hr hlt;obtain⟨v,vs',d,ds',p,q,rfl,rfl,rfl,h1,h2⟩:=trodAll_cons h;obtain⟨hr1,hr2⟩:=hr t (List.mem_cons_self ..);exact trodAll_cons_mk (Below.trod hP hr1 hr2 h1 hb (fun x hx=>hlt x (List.mem_append_left _ hx))) (ih _ _ _ h2 (fun t ht=>hr t (List.mem_cons_of_mem _ ht)) (fun x hx=>hlt x (List.mem_append_right _ hx)))
theorem z3d4{P:Program}{ts:List TypeId}(h:(ts.all fun t=>P.readableRec t&&decide (t<P.types.size))=true):∀t∈ts,P.readableRec t=true∧t<P.types.size:=by
 intro t ht;have h1:=List.all_eq_true.1 h t ht;rw[Bool.and_eq_true] at h1;exact⟨h1.1,of_decide_eq_true h1.2⟩
end
open Go.RowKit Abs
set_option maxHeartbeats 4000000
set_option maxRecDepth 20000
noncomputable abbrev Pg:Program:=Tryd.prog
theorem oS{α:Type}{x:Option α}{k:α→R}{r:ARes×AHeap}(h:obind x k=some r):∃a,x=some a∧k a=some r:=z3 h
theorem lS{α:Type}{v:α}{k:α→R}{r:ARes×AHeap}(h:lett v k=some r):∃x,x=v∧k x=some r:=z9 h
noncomputable def z4c(_:zc)(_:Nat)(t0:AV)(x:AV)(h:AHeap):R:=outK (ze4 Pg h .neq 20 true (some x) (some AV.nifc)) fun v6 h_2=>obind (z23 v6) fun t6=>lett (fun (h_6:AHeap)=>some (.ret (.tup []),h_6)) fun k5=>ifB t6 (outK (z13b Pg h_2 131 true (some x)) fun v9 h_8=>obind (z153 0 v9) fun v10=>obind (z65 v10) fun t10=>obind (z153 1 v9) fun v11=>obind (z23 v11) fun t11=>lett (newH h_8 131 [.int .i64 0,.int .i64 0]) fun h_14=>obind (z15 h_14 2 t10 (z6 h_8)) fun h_16=>lett (!t11) fun (t13:Bool)=>lett (fun (h_22:AHeap)=>obind (z16 h_22 2 (AV.ptr (AHeap.next h_8) 0)) fun t16=>obind (z15 h_22 2 t16 t0) fun h_24=>k5 h_24) fun k21=>ifB t13 (none) (k21 h_16)) (k5 h_2)
theorem ze2{call:zc}(_:SaysAll Pg call){n:Nat}{t0:AV}{x:AV}{u:Option AV}(hu:u.getD .nifc=x){h:AHeap}{rR:ARes}{hR:AHeap}(z:z4c call n t0 x h=some (rR,hR)):DSays Pg 73 [t0] u h none hR:=by
 unfold z4c at z;subst hu;refine dsays_of (fn:=Tryd.f73) (u':=none) (h1:=h) (l:=[(1,(u.getD .nifc)),(4,(u.getD .nifc)),(0,t0)]) Tryd.func73 (c:=z55 Tryd.f73) (by kernel_rfl) (by kernel_rfl) (by kernel_rfl) (by kernel_rfl) (by kernel_rfl) (by kernel_rfl) (by kernel_rfl) (fun w0 m0=>?_);refine wW [(0,t0),(1,(u.getD .nifc))] ?_;refine oG fun n1=>W.r ?_;refine oA 5 (u.getD .nifc) ?_
 replace z:=z3c z;obtain⟨v6,h_2,e3,z⟩:=z
 replace z:=oS z;obtain⟨t6,c4,z⟩:=z
 have c4:=z57 c4;subst c4;refine WL.b (some 6) (.bool t6) h_2 e3 ?_;refine oV [(0,t0),(1,(u.getD .nifc)),(6,.bool t6)] (n1 ?_);obtain⟨k5,e5,z⟩:=lS z
 have J5:∀(h_6:AHeap),k5 h_6=some (rR,hR)→Go w0 m0 (Func.ntmps Tryd.f73) (DFin w0 m0 hR .normal) [] [] h_6:=by
  intro h_6 z;rw[e5] at z;obtain⟨z,hF2⟩:=z24f z;subst hF2;exact Go.dleave
 cases t6 with
 |true=>
  refine oT z fun z=>?_;refine oG fun n7=>W.r ?_;refine oA 8 (u.getD .nifc) ?_;refine oK 9 z fun v9 h_8 z=>?_;refine oA 7 v9 ?_;refine oEa 10 z fun t10 z=>?_;refine oEb 11 z fun t11 z=>?_;refine oN 2 z fun h_14 z=>?_;refine oW 131 (.agg t10) z fun h_16 z=>?_;refine oA 3 (.bool t11) ?_;refine oV [(0,t0),(1,(u.getD .nifc)),(2,z6 h_8),(3,.bool t11)] (n7 ?_);refine W.s (fun K18 n18 _ _ _=>?_);refine oG fun n19=>W.r ?_;refine oA 12 (.bool t11) ?_;refine oB 13 z fun t13 z=>?_;refine oV [(0,t0),(1,(u.getD .nifc)),(2,z6 h_8),(13,.bool t13)] (n19 ?_);obtain⟨k21,e21,z⟩:=lS z
  have J21:∀(h_22:AHeap),k21 h_22=some (rR,hR)→Go w0 m0 (Func.ntmps Tryd.f73) (K18 .normal) [(0,t0),(2,z6 h_8)] [] h_22:=by
   intro h_22 z;rw[e21] at z;refine n18 (W.r ?_);refine oA 15 (AV.ptr (AHeap.next h_8) 0) ?_;refine oR 16 70 z fun t16 z=>?_;refine oW 70 (.agg t16) z fun h_24 z=>?_;refine oV [] ?_;exact gW _ (J5 _ z)
  cases t13 with
  |true=>
   refine oT z fun z=>?_;refine W.r ?_;refine oA 14 (u.getD .nifc) ?_
   cases z
  |false=>
   refine oU z fun z=>?_;refine oZ ?_;exact gW _ (J21 _ z)
 |false=>
  refine oU z fun z=>?_;refine oZ ?_;exact gW _ (J5 _ z)
noncomputable def zab(call:zc)(n:Nat)(t0:AV)(h:AHeap):R:=lett (newH h 70 [.int .i64 0,.int .i64 0]) fun h_2=>z2d0 (z479 Pg call t0 [] h_2) (fun pv h_14=>callN (z4c call n (z6 h) pv h_14) fun _ h_15=>obind (z16 h_15 2 (z6 h)) fun w2_18=>some (.ret (.agg w2_18),h_15)) fun _ h_6=>obind (z15 h_6 2 ([.int .i64 0,.int .i64 0]:List AV) (z6 h)) fun h_9=>callN (z4c call n (z6 h) .nifc h_9) fun _ h_11=>obind (z16 h_11 2 (z6 h)) fun w2=>some (.ret (.agg w2),h_11)
theorem z282{call:zc}(hc:SaysAll Pg call){n:Nat}{t0:AV}{h:AHeap}{rR:ARes}{hR:AHeap}(z:zab call n t0 h=some (rR,hR)):Says Pg 54 [t0] h rR hR:=by
 unfold zab at z;refine sO Tryd.func54 fun w0 m0=>?_;refine wW [(0,t0)] ?_;refine oG fun n1=>W.r ?_;refine oN 2 z fun h_2 z=>?_;refine oV [(0,t0),(2,z6 h)] (n1 ?_);refine oG fun n4=>W.r ?_;refine oA 3 (AV.fn 73 [] [(z6 h)]) ?_;refine WL.dfr (d:=none) (f:=73) (args:=[]) (cap:=[(z6 h)]) (h':=h_2) (by kernel_rfl) (by kernel_rfl) (by kernel_rfl) ?_;refine oV [(0,t0),(2,z6 h)] (n4 ?_);refine oJ fun n5 p5=>W.r ?_;refine oA 4 t0 ?_
 replace z:=z3fc z;rcases z with⟨r5,h_6,e7,z⟩|⟨pv,h_14,e7,z⟩
 ·rcases z238 e7 with ⟨d19g, d19as, d19h, d191, d192⟩ | ⟨d19v, d19h, d191, d192⟩
  rotate_left
  ·cases d192
   refine WL.val (d:=(some 5)) (by kernel_rfl) (by kernel_rfl) (Eq.trans (by kernel_rfl) d191) ?_;refine oV [(2,z6 h)] (n5 ?_);refine W.s (fun K8 n8 e8 q8 p8=>?_);refine W.r ?_;refine oA 6 (.agg ([.int .i64 0,.int .i64 0]:List AV)) ?_;obtain⟨h_9,e10,z⟩:=oS z;refine WL.e h_9 (z3f (P:=Pg) (h:=h_6) (t:=70) (v:=(.agg ([.int .i64 0,.int .i64 0]:List AV))) (by kernel_rfl) (by kernel_rfl) e10) ?_;refine oV [(2,z6 h)] (n8 (oY ?_));obtain⟨_,h_11,e12,z⟩:=z4d z;obtain⟨w2,e13,z⟩:=oS z;obtain⟨z,hF2⟩:=z24f z;subst z;subst hF2;exact Go.leaveD (by kernel_rfl) (ze2 hc (u:=none) rfl e12) (z3f5 (rs:=[.cell 2 70]) (vs:=[.agg w2]) (by kernel_rfl) (z219 (by kernel_rfl) (zb1 (P:=Pg) (h:=h_11) (t:=70) (by kernel_rfl) (by kernel_rfl) e13) zd) (by kernel_rfl))
  ·refine WL.call (hc.ok w0) (d := (some 5)) (by kernel_rfl) (by kernel_rfl) (Eq.trans (by kernel_rfl) d191) d192 ?_
   refine oV [(2,z6 h)] (n5 ?_);refine W.s (fun K8 n8 e8 q8 p8=>?_);refine W.r ?_;refine oA 6 (.agg ([.int .i64 0,.int .i64 0]:List AV)) ?_;obtain⟨h_9,e10,z⟩:=oS z;refine WL.e h_9 (z3f (P:=Pg) (h:=h_6) (t:=70) (v:=(.agg ([.int .i64 0,.int .i64 0]:List AV))) (by kernel_rfl) (by kernel_rfl) e10) ?_;refine oV [(2,z6 h)] (n8 (oY ?_));obtain⟨_,h_11,e12,z⟩:=z4d z;obtain⟨w2,e13,z⟩:=oS z;obtain⟨z,hF2⟩:=z24f z;subst z;subst hF2;exact Go.leaveD (by kernel_rfl) (ze2 hc (u:=none) rfl e12) (z3f5 (rs:=[.cell 2 70]) (vs:=[.agg w2]) (by kernel_rfl) (z219 (by kernel_rfl) (zb1 (P:=Pg) (h:=h_11) (t:=70) (by kernel_rfl) (by kernel_rfl) e13) zd) (by kernel_rfl))
 ·obtain ⟨_, h_15, e16, z⟩ := z4d z
  obtain⟨w2_18,e17,z⟩:=oS z;obtain⟨z,hF2⟩:=z24f z;subst z;subst hF2
  rcases z238 e7 with⟨d19g,d19as,d19h,d191,d192⟩|⟨d19v,d19h,d191,d192⟩
  ·exact y3d (hc.ok w0) (d:=(some 5)) (by kernel_rfl) (by kernel_rfl) (Eq.trans (by kernel_rfl) d191) d192 (p5 (Pan.leaveD (by kernel_rfl) (ze2 hc (u:=(some pv)) rfl e16) (z3f5 (rs:=[.cell 2 70]) (vs:=[.agg w2_18]) (by kernel_rfl) (z219 (by kernel_rfl) (zb1 (P:=Pg) (h:=h_15) (t:=70) (by kernel_rfl) (by kernel_rfl) e17) zd) (by kernel_rfl))))
  ·cases d192
noncomputable def z46(call:zc)(_:Nat)(t0:AV)(t1:Int)(h:AHeap):R:=callN (call 88 [t0,.int .u8 t1] h) fun r6 h_2=>obind (z23 r6) fun t6=>lett (!t6) fun (t7:Bool)=>lett (fun (h_7:AHeap)=>some (.ret (.tup []),h_7)) fun k6=>ifB t7 (obind (z74 t0) fun t9=>obind (z49 1 t9) fun t10=>obind (z7 h_2 t10) fun v11=>obind (avInt .i64 v11) fun t11=>callK (call 89 [.int .i64 6,.int .i64 t11] h_2) fun _ h_12=>k6 h_12) (k6 h_2)
theorem z1a1{call:zc}(hc:SaysAll Pg call){n:Nat}{t0:AV}{t1:Int}{h:AHeap}{rR:ARes}{hR:AHeap}(z:z46 call n t0 t1 h=some (rR,hR)):Says Pg 96 [t0,.int .u8 t1] h rR hR:=by
 unfold z46 at z;refine sO Tryd.func96 fun w0 m0=>?_;refine wW [(0,t0),(1,.int .u8 t1)] ?_;refine oG fun n1=>W.r ?_;refine oA 4 t0 ?_;refine oA 5 (.int .u8 t1) ?_;refine oCb hc 6 z fun t6 h_2 z=>?_;refine oB 7 z fun t7 z=>?_;refine oV [(0,t0),(7,.bool t7)] (n1 ?_);obtain⟨k6,e6,z⟩:=lS z
 have J6:∀(h_7:AHeap),k6 h_7=some (rR,hR)→Go w0 m0 (Func.ntmps Tryd.f96) (Fin Pg Tryd.f96 w0 m0 rR hR .normal) [] [] h_7:=by
  intro h_7 z;rw[e6] at z;exact lY z [] [] zd
 cases t7 with
 |true=>
  refine oT z fun z=>?_;refine W.r ?_;refine oA 8 t0 ?_;refine oC0 9 z fun t9 z=>?_;refine oF 10 112 1 z fun t10 z=>?_;refine oLi 11 3 z fun t11 z=>?_;refine oCK hc (some 12) z (fun q=>Pf q) fun r12 h_12 z=>?_;refine oV [] ?_;exact gW _ (J6 _ z)
 |false=>
  refine oU z fun z=>?_;refine oZ ?_;exact gW _ (J6 _ z)
noncomputable def z59(call:zc)(_:Nat)(t0:AV)(t1:Int)(h:AHeap):R:=callN (call 92 [t0,.int .u8 t1] h) fun r7 h_4=>obind (z23 r7) fun t7=>lett (!t7) fun (t8:Bool)=>ifB t8 (some (.ret (.bool false),h_4)) (obind (z74 t0) fun t10=>obind (z49 1 t10) fun t11=>obind (z7 h_4 t11) fun v12=>obind (avInt .i64 v12) fun t12=>lett (IntKind.i64.wrap (t12+1)) fun (t13:Int)=>obind (z74 t0) fun t14=>obind (z49 1 t14) fun t15=>obind (z15 h_4 1 [.int .i64 t13] t15) fun h_17=>some (.ret (.bool true),h_17))
theorem z182{call:zc}(hc:SaysAll Pg call){n:Nat}{t0:AV}{t1:Int}{h:AHeap}{rR:ARes}{hR:AHeap}(z:z59 call n t0 t1 h=some (rR,hR)):Says Pg 88 [t0,.int .u8 t1] h rR hR:=by
 unfold z59 at z;refine sO Tryd.func88 fun w0 m0=>?_;refine wW [(0,t0),(1,.int .u8 t1)] ?_;refine oG fun n1=>W.r ?_;refine oA 4 (.bool false) ?_;refine oV [(0,t0),(1,.int .u8 t1)] (n1 ?_);refine oH fun n2 q2=>?_;refine oG fun n3=>W.r ?_;refine oA 5 t0 ?_;refine oA 6 (.int .u8 t1) ?_;refine oCb hc 7 z fun t7 h_4 z=>?_;refine oB 8 z fun t8 z=>?_;refine oV [(0,t0),(8,.bool t8)] (n3 ?_)
 cases t8 with
 |true=>
  refine oT z fun z=>?_;refine oG fun n8=>W.r ?_;refine oA 4 (.bool false) ?_;refine oV [(4,.bool false)] (n8 (oY (q2 ?_)));exact lZ z [.tmp 4] [.bool false] (rT zd)
 |false=>
  refine oU z fun z=>?_;refine oZ (n2 ?_);refine oG fun n9=>W.r ?_;refine oA 9 t0 ?_;refine oC0 10 z fun t10 z=>?_;refine oF 11 112 1 z fun t11 z=>?_;refine oLi 12 3 z fun t12 z=>?_;refine oI 13 .i64 z fun t13 z=>?_;refine oC0 14 z fun t14 z=>?_;refine oF 15 112 1 z fun t15 z=>?_;refine oW 3 (.int .i64 t13) z fun h_17 z=>?_;refine oV [] (n9 ?_);refine oG fun n19=>W.r ?_;refine oA 4 (.bool true) ?_;refine oV [(4,.bool true)] (n19 (oY ?_));exact lZ z [.tmp 4] [.bool true] (rT zd)
noncomputable def z63(call:zc)(_:Nat)(t0:AV)(t1:Int)(h:AHeap):R:=lett (fun (t4:Bool) (h_4:AHeap)=>some (.ret (.bool t4),h_4)) fun k3=>callN (call 81 [t0] h) fun r6 h_5=>obind (z23 r6) fun t6=>lett (!t6) fun (t7:Bool)=>ifB t7 (obind (z74 t0) fun t10=>obind (z49 0 t10) fun t11=>obind (z7 h_5 t11) fun v12=>obind (z1c4 v12) fun t12=>obind (z74 t0) fun t14=>obind (z49 1 t14) fun t15=>obind (z7 h_5 t15) fun v16=>obind (avInt .i64 v16) fun t16=>obind (idxS t12 t16) fun t17=>lett ((t17:Int) == t1) fun (t19:Bool)=>k3 t19 h_5) (k3 false h_5)
theorem z1a2{call:zc}(hc:SaysAll Pg call){n:Nat}{t0:AV}{t1:Int}{h:AHeap}{rR:ARes}{hR:AHeap}(z:z63 call n t0 t1 h=some (rR,hR)):Says Pg 92 [t0,.int .u8 t1] h rR hR:=by
 unfold z63 at z;refine sO Tryd.func92 fun w0 m0=>?_;refine wW [(0,t0),(1,.int .u8 t1)] ?_;refine oG fun n1=>W.r ?_;refine oA 4 (.bool false) ?_;refine oV [(0,t0),(1,.int .u8 t1)] (n1 ?_);refine W.s (fun K2 n2 _ _ _=>?_);obtain⟨k3,e3,z⟩:=lS z
 have J3:∀(t4:Bool) (h_4:AHeap),k3 t4 h_4=some (rR,hR)→Go w0 m0 (Func.ntmps Tryd.f92) (K2 .normal) [(4,.bool t4)] [] h_4:=by
  intro t4 h_4 z;rw[e3] at z;refine n2 (oY ?_);exact lZ z [.tmp 4] [.bool t4] (rT zd)
 refine y21 (by kernel_rfl) (hc.ok w0) (plan:=[0,1,2,3,4,5,6,7,8,9,10,11,12,13,14,15,16]) (by kernel_rfl) (by kernel_rfl) (by kernel_rfl) ?_;refine WD.a 0 (some 5) t0 h ?_
 replace z:=z4d z;obtain⟨r6,h_5,e6,z⟩:=z
 replace z:=oS z;obtain⟨t6,c7,z⟩:=z
 have c7:=z57 c7;subst c7;refine WD.call (d:=(some 6)) (by kernel_rfl) (by kernel_rfl) (by kernel_rfl) e6 (k:=2) (by kernel_rfl) (fun _=>(by kernel_rfl)) (by decide) ?_;obtain⟨t7,e8,z⟩:=lS z;refine WD.val (d:=(some 7)) (v:=.bool t7) (h':=h_5) (by kernel_rfl) (by kernel_rfl) (z108 AV.bool e8 (by kernel_rfl)) (k:=0) (by kernel_rfl) (fun e=>absurd e (by decide)) (by decide) ?_;refine WD.a 0 (some 8) (.bool t7) h_5 ?_
 cases t7 with
 |true=>
  replace z:=zc3 z
  refine WD.a 0 (some 9) t0 h_5 ?_;obtain⟨t10,e9,z⟩:=oS z;refine WD.b 0 (some 10) t10 h_5 (z2c (h:=h_5) e9) ?_;obtain⟨t11,e10,z⟩:=oS z;refine WD.b 0 (some 11) t11 h_5 (z1b (P:=Pg) (h:=h_5) (s:=112) (f:=0) (by kernel_rfl) e10) ?_
  replace z:=oS z;obtain⟨v12,e11,z⟩:=z
  replace z:=oS z;obtain⟨t12,c12,z⟩:=z
  have c12:=z105 c12;subst c12;refine WD.b 1 (some 12) (strA t12) h_5 (z14 (P:=Pg) (h:=h_5) (t:=9) (by kernel_rfl) e11) ?_;refine WD.a 0 (some 13) t0 h_5 ?_;obtain⟨t14,e13,z⟩:=oS z;refine WD.b 0 (some 14) t14 h_5 (z2c (h:=h_5) e13) ?_;obtain⟨t15,e14,z⟩:=oS z;refine WD.b 0 (some 15) t15 h_5 (z1b (P:=Pg) (h:=h_5) (s:=112) (f:=1) (by kernel_rfl) e14) ?_
  replace z:=oS z;obtain⟨v16,e15,z⟩:=z
  replace z:=oS z;obtain⟨t16,c16,z⟩:=z
  have c16:=z17 c16;subst c16;refine WD.b 1 (some 16) (.int .i64 t16) h_5 (z14 (P:=Pg) (h:=h_5) (t:=3) (by kernel_rfl) e15) ?_;obtain⟨t17,e17,z⟩:=oS z;refine WD.b 0 (some 17) (.int .u8 t17) h_5 (z230 (P:=Pg) (h:=h_5) (t:=9) (k:=.i64) (by kernel_rfl) e17) ?_;refine WD.a 0 (some 18) (.int .u8 t1) h_5 ?_;obtain⟨t19,e18,z⟩:=lS z;refine WD.val (d:=(some 19)) (v:=.bool t19) (h':=h_5) (by kernel_rfl) (by kernel_rfl) (z108 AV.bool e18 (by kernel_rfl)) (k:=0) (by kernel_rfl) (fun e=>absurd e (by decide)) (by decide) ?_;refine WD.a 0 (some 20) (.bool t19) h_5 ?_;refine WD.a 0 (some 4) (.bool t19) h_5 ?_;refine WD.nil ?_;exact gW _ (J3 _ _ z)
 |false=>
  replace z:=zc4 z
  refine oD 0 (some 9) ?_;refine oD 0 (some 10) ?_;refine oD 0 (some 11) ?_;refine oD 1 (some 12) ?_;refine oD 0 (some 13) ?_;refine oD 0 (some 14) ?_;refine oD 0 (some 15) ?_;refine oD 1 (some 16) ?_;refine oD 0 (some 17) ?_;refine oD 0 (some 18) ?_;refine oD 0 (some 19) ?_;refine WD.a 0 (some 20) (.bool false) h_5 ?_;refine WD.a 0 (some 4) (.bool false) h_5 ?_;refine WD.nil ?_;exact gW _ (J3 _ _ z)
noncomputable def z5a(_:zc)(_:Nat)(t0:AV)(h:AHeap):R:=obind (z74 t0) fun t4=>obind (z49 1 t4) fun t5=>obind (z7 h t5) fun v6=>obind (avInt .i64 v6) fun t6=>obind (z74 t0) fun t8=>obind (z49 0 t8) fun t9=>obind (z7 h t9) fun v10=>obind (z1c4 v10) fun t10=>lett ((t6:Int) == (z115 t10)) fun (t12:Bool)=>some (.ret (.bool t12),h)
theorem z183{call:zc}(hc:SaysAll Pg call){n:Nat}{t0:AV}{h:AHeap}{rR:ARes}{hR:AHeap}(z:z5a call n t0 h=some (rR,hR)):Says Pg 81 [t0] h rR hR:=by
 unfold z5a at z;refine sO Tryd.func81 fun w0 m0=>?_;refine wW [(0,t0)] ?_;refine oG fun n1=>W.r ?_;refine oA 2 (.bool false) ?_;refine oV [(0,t0)] (n1 ?_);refine oG fun n2=>?_;refine y21 (by kernel_rfl) (hc.ok w0) (plan:=[0,1,2,3,4,5,6,7,8,9,10]) (by kernel_rfl) (by kernel_rfl) (by kernel_rfl) ?_;refine WD.a 0 (some 3) t0 h ?_;obtain⟨t4,e3,z⟩:=oS z;refine WD.b 0 (some 4) t4 h (z2c (h:=h) e3) ?_;obtain⟨t5,e4,z⟩:=oS z;refine WD.b 0 (some 5) t5 h (z1b (P:=Pg) (h:=h) (s:=112) (f:=1) (by kernel_rfl) e4) ?_
 replace z:=oS z;obtain⟨v6,e5,z⟩:=z
 replace z:=oS z;obtain⟨t6,c6,z⟩:=z
 have c6:=z17 c6;subst c6;refine WD.b 1 (some 6) (.int .i64 t6) h (z14 (P:=Pg) (h:=h) (t:=3) (by kernel_rfl) e5) ?_;refine WD.a 0 (some 7) t0 h ?_;obtain⟨t8,e7,z⟩:=oS z;refine WD.b 0 (some 8) t8 h (z2c (h:=h) e7) ?_;obtain⟨t9,e8,z⟩:=oS z;refine WD.b 0 (some 9) t9 h (z1b (P:=Pg) (h:=h) (s:=112) (f:=0) (by kernel_rfl) e8) ?_
 replace z:=oS z;obtain⟨v10,e9,z⟩:=z
 replace z:=oS z;obtain⟨t10,c10,z⟩:=z
 have c10:=z105 c10;subst c10;refine WD.b 1 (some 10) (strA t10) h (z14 (P:=Pg) (h:=h) (t:=9) (by kernel_rfl) e9) ?_;refine WD.a 0 (some 11) (.int .i64 (z115 t10)) h ?_;obtain⟨t12,e11,z⟩:=lS z;refine WD.val (d:=(some 12)) (v:=.bool t12) (h':=h) (by kernel_rfl) (by kernel_rfl) (z108 AV.bool e11 (by kernel_rfl)) (k:=0) (by kernel_rfl) (fun e=>absurd e (by decide)) (by decide) ?_;refine WD.a 0 (some 2) (.bool t12) h ?_;refine WD.nil ?_;refine gW [(2,.bool t12)] (n2 (oY ?_));exact lZ z [.tmp 2] [.bool t12] (rT zd)
noncomputable def z52(call:zc)(_:Nat)(t0:AV)(h:AHeap):R:=callN (call 81 [t0] h) fun r3 h_2=>obind (z23 r3) fun t3=>lett (!t3) fun (t4:Bool)=>lett (fun (h_7:AHeap)=>some (.ret (.tup []),h_7)) fun k6=>ifB t4 (obind (z74 t0) fun t6=>obind (z49 1 t6) fun t7=>obind (z7 h_2 t7) fun v8=>obind (avInt .i64 v8) fun t8=>callK (call 89 [.int .i64 6,.int .i64 t8] h_2) fun _ h_12=>k6 h_12) (k6 h_2)
theorem z1b3{call:zc}(hc:SaysAll Pg call){n:Nat}{t0:AV}{h:AHeap}{rR:ARes}{hR:AHeap}(z:z52 call n t0 h=some (rR,hR)):Says Pg 77 [t0] h rR hR:=by
 unfold z52 at z;refine sO Tryd.func77 fun w0 m0=>?_;refine wW [(0,t0)] ?_;refine oG fun n1=>W.r ?_;refine oA 2 t0 ?_;refine oCb hc 3 z fun t3 h_2 z=>?_;refine oB 4 z fun t4 z=>?_;refine oV [(0,t0),(4,.bool t4)] (n1 ?_);obtain⟨k6,e6,z⟩:=lS z
 have J6:∀(h_7:AHeap),k6 h_7=some (rR,hR)→Go w0 m0 (Func.ntmps Tryd.f77) (Fin Pg Tryd.f77 w0 m0 rR hR .normal) [] [] h_7:=by
  intro h_7 z;rw[e6] at z;exact lY z [] [] zd
 cases t4 with
 |true=>
  refine oT z fun z=>?_;refine W.r ?_;refine oA 5 t0 ?_;refine oC0 6 z fun t6 z=>?_;refine oF 7 112 1 z fun t7 z=>?_;refine oLi 8 3 z fun t8 z=>?_;refine oCK hc (some 9) z (fun q=>Pf q) fun r9 h_12 z=>?_;refine oV [] ?_;exact gW _ (J6 _ z)
 |false=>
  refine oU z fun z=>?_;refine oZ ?_;exact gW _ (J6 _ z)
noncomputable def z47(call:zc)(_:Nat)(t0:AV)(h:AHeap):R:=callN (call 81 [t0] h) fun r4 h_4=>obind (z23 r4) fun t4=>lett (fun (h_8:AHeap)=>obind (z74 t0) fun t11=>obind (z49 1 t11) fun t12=>obind (z7 h_8 t12) fun v13=>obind (avInt .i64 v13) fun t13=>lett (IntKind.i64.wrap (t13+1)) fun (t14:Int)=>obind (z74 t0) fun t15=>obind (z49 1 t15) fun t16=>obind (z15 h_8 1 [.int .i64 t14] t16) fun h_17=>obind (z74 t0) fun t18=>obind (z49 0 t18) fun t19=>obind (z7 h_17 t19) fun v20=>obind (z1c4 v20) fun t20=>obind (z74 t0) fun t22=>obind (z49 1 t22) fun t23=>obind (z7 h_17 t23) fun v24=>obind (avInt .i64 v24) fun t24=>lett (IntKind.i64.wrap (t24 - 1)) fun (t25:Int)=>obind (idxS t20 t25) fun t26=>some (.ret (.int .u8 t26),h_17)) fun k7=>ifB t4 (obind (z74 t0) fun t6=>obind (z49 1 t6) fun t7=>obind (z7 h_4 t7) fun v8=>obind (avInt .i64 v8) fun t8=>callK (call 89 [.int .i64 6,.int .i64 t8] h_4) fun _ h_34=>k7 h_34) (k7 h_4)
theorem z1a3{call:zc}(hc:SaysAll Pg call){n:Nat}{t0:AV}{h:AHeap}{rR:ARes}{hR:AHeap}(z:z47 call n t0 h=some (rR,hR)):Says Pg 83 [t0] h rR hR:=by
 unfold z47 at z;refine sO Tryd.func83 fun w0 m0=>?_;refine wW [(0,t0)] ?_;refine oG fun n1=>W.r ?_;refine oA 2 (.int .u8 0) ?_;refine oV [(0,t0)] (n1 ?_);refine W.s (fun K2 n2 _ _ p2=>?_);refine oG fun n3=>W.r ?_;refine oA 3 t0 ?_;refine oCb hc 4 z fun t4 h_4 z=>?_;refine oV [(0,t0),(4,.bool t4)] (n3 ?_);obtain⟨k7,e7,z⟩:=lS z
 have J7:∀(h_8:AHeap),k7 h_8=some (rR,hR)→Go w0 m0 (Func.ntmps Tryd.f83) (K2 .normal) [(0,t0)] [] h_8:=by
  intro h_8 z;rw[e7] at z;refine n2 ?_;refine oG fun n9=>W.r ?_;refine oA 10 t0 ?_;refine oC0 11 z fun t11 z=>?_;refine oF 12 112 1 z fun t12 z=>?_;refine oLi 13 3 z fun t13 z=>?_;refine oI 14 .i64 z fun t14 z=>?_;refine oC0 15 z fun t15 z=>?_;refine oF 16 112 1 z fun t16 z=>?_;refine oW 3 (.int .i64 t14) z fun h_17 z=>?_;refine oV [(0,t0)] (n9 ?_);refine oG fun n19=>?_;refine y21 (by kernel_rfl) (hc.ok w0) (plan:=[0,1,2,3,4,5,6,7,8,9,10]) (by kernel_rfl) (by kernel_rfl) (by kernel_rfl) ?_;refine WD.a 0 (some 17) t0 h_17 ?_;obtain⟨t18,e20,z⟩:=oS z;refine WD.b 0 (some 18) t18 h_17 (z2c (h:=h_17) e20) ?_;obtain⟨t19,e21,z⟩:=oS z;refine WD.b 0 (some 19) t19 h_17 (z1b (P:=Pg) (h:=h_17) (s:=112) (f:=0) (by kernel_rfl) e21) ?_
  replace z:=oS z;obtain⟨v20,e22,z⟩:=z
  replace z:=oS z;obtain⟨t20,c23,z⟩:=z
  have c23:=z105 c23;subst c23;refine WD.b 1 (some 20) (strA t20) h_17 (z14 (P:=Pg) (h:=h_17) (t:=9) (by kernel_rfl) e22) ?_;refine WD.a 0 (some 21) t0 h_17 ?_;obtain⟨t22,e24,z⟩:=oS z;refine WD.b 0 (some 22) t22 h_17 (z2c (h:=h_17) e24) ?_;obtain⟨t23,e25,z⟩:=oS z;refine WD.b 0 (some 23) t23 h_17 (z1b (P:=Pg) (h:=h_17) (s:=112) (f:=1) (by kernel_rfl) e25) ?_
  replace z:=oS z;obtain⟨v24,e26,z⟩:=z
  replace z:=oS z;obtain⟨t24,c27,z⟩:=z
  have c27:=z17 c27;subst c27;refine WD.b 1 (some 24) (.int .i64 t24) h_17 (z14 (P:=Pg) (h:=h_17) (t:=3) (by kernel_rfl) e26) ?_;obtain⟨t25,e28,z⟩:=lS z;refine WD.val (d:=(some 25)) (v:=.int .i64 t25) (h':=h_17) (by kernel_rfl) (by kernel_rfl) (z108 (AV.int .i64) e28 (by kernel_rfl)) (k:=0) (by kernel_rfl) (fun e=>absurd e (by decide)) (by decide) ?_;obtain⟨t26,e29,z⟩:=oS z;refine WD.b 0 (some 26) (.int .u8 t26) h_17 (z230 (P:=Pg) (h:=h_17) (t:=9) (k:=.i64) (by kernel_rfl) e29) ?_;refine WD.a 0 (some 2) (.int .u8 t26) h_17 ?_;refine WD.nil ?_;refine gW [(2,.int .u8 t26)] (n19 (oY ?_));exact lZ z [.tmp 2] [.int .u8 t26] (rT zd)
 cases t4 with
 |true=>
  refine oT z fun z=>?_;refine W.r ?_;refine oA 5 t0 ?_;refine oC0 6 z fun t6 z=>?_;refine oF 7 112 1 z fun t7 z=>?_;refine oLi 8 3 z fun t8 z=>?_;refine oCK hc (some 9) z (fun q=>p2 (Pf q)) fun r9 h_34 z=>?_;refine oV [(0,t0)] ?_;exact gW _ (J7 _ z)
 |false=>
  refine oU z fun z=>?_;refine oZ ?_;exact gW _ (J7 _ z)
noncomputable def z34(call:zc)(_:Nat)(t0:AV)(h:AHeap):R:=obind (z74 t0) fun t3=>obind (z49 1 t3) fun t4=>obind (z7 h t4) fun v5=>obind (avInt .i64 v5) fun t5=>lett (IntKind.i64.wrap (t5 - 1)) fun (t6:Int)=>callK (call 89 [.int .i64 6,.int .i64 t6] h) fun _ h_6=>some (.ret (.tup []),h_6)
theorem z139{call:zc}(hc:SaysAll Pg call){n:Nat}{t0:AV}{h:AHeap}{rR:ARes}{hR:AHeap}(z:z34 call n t0 h=some (rR,hR)):Says Pg 98 [t0] h rR hR:=by
 unfold z34 at z;refine sO Tryd.func98 fun w0 m0=>?_;refine wW [(0,t0)] ?_;refine W.r ?_;refine oA 2 t0 ?_;refine oC0 3 z fun t3 z=>?_;refine oF 4 112 1 z fun t4 z=>?_;refine oLi 5 3 z fun t5 z=>?_;refine oI 6 .i64 z fun t6 z=>?_;refine oCK hc (some 7) z (fun q=>Pf q) fun r7 h_6 z=>?_;refine oV [] ?_;exact lY z [] [] zd
noncomputable def zbd(_:zc)(_:Nat)(t0:Int)(t1:Int)(h:AHeap):R:=obind (z2d3 Pg 131 [(0,.agg ([.int .i64 t0,.int .i64 t1]:List AV))]) fun t7=>panK (AV.ifc 131 (.agg t7)) h
theorem z252{call:zc}(_:SaysAll Pg call){n:Nat}{t0:Int}{t1:Int}{h:AHeap}{rR:ARes}{hR:AHeap}(z:zbd call n t0 t1 h=some (rR,hR)):Says Pg 89 [.int .i64 t0,.int .i64 t1] h rR hR:=by
 unfold zbd at z;refine sO Tryd.func89 fun w0 m0=>?_;refine wW [(0,.int .i64 t0),(1,.int .i64 t1)] ?_;refine W.r ?_;refine oA 4 (.int .i64 t0) ?_;refine oA 5 (.int .i64 t1) ?_;refine oA 6 (.agg ([.int .i64 t0,.int .i64 t1]:List AV)) ?_;obtain⟨t7,e1,z⟩:=oS z;refine WL.val (d:=(some 7)) (v:=.agg t7) (h':=h) (by kernel_rfl) (by kernel_rfl) (z1e9 (by kernel_rfl) e1) ?_;refine oA 8 (AV.ifc 131 (.agg t7)) ?_
 replace z:=z49c z;obtain⟨a3t,a3v,e2,e22⟩:=z
 cases e22
 exact WL.pan (d:=none) (by kernel_rfl) (by kernel_rfl) (Eq.trans (by kernel_rfl) (congrArg (fun x=>z3d8 _ (some x)) e2)) y5a
set_option maxHeartbeats 4000000
set_option maxRecDepth 20000
noncomputable def z12(call:zc)(_:Nat)(t0:List AV)(h:AHeap):R:=
 outK (z118 h 51 (some (.agg t0))) fun v1 h_2=>
 lett (newH h_2 68 [.int .i64 0,.int .u64 0,.int .u64 0,.int .u64 0,.int .u64 0,.nsl]) fun h_4=>
 lett (newH h_4 70 [.int .i64 0,.int .i64 0]) fun h_6=>
 obind (z49 0 v1) fun t5=>
 obind (z7 h_6 t5) fun v6=>
 obind (avInt .i64 v6) fun t6=>
 lett ((t6:Int) != 1) fun (t7:Bool)=>
 lett (fun (t12:Bool) (h_14:AHeap)=>
  lett (fun (t17:Bool) (h_17:AHeap)=>
   ifB t17
   (
    obind (z15 h_17 6 ([.int .i64 0,.int .u64 0,.int .u64 0,.int .u64 0,.int .u64 0,.nsl]:List AV) (z6 h_2)) fun h_21=>
    obind (z15 h_21 2 ([.int .i64 2,.int .i64 0]:List AV) (z6 h_4)) fun h_23=>
    obind (z16 h_23 6 (z6 h_2)) fun w2=>
    obind (z16 h_23 2 (z6 h_4)) fun w3=>
    some (.ret (.tup [.agg w2,.agg w3]),h_23))
   (
    obind (z49 1 v1) fun t20=>
    obind (z7 h_17 t20) fun v21=>
    obind (z1c4 v21) fun t21=>
    lett (decide ((z115 t21)>64)) fun (t23:Bool)=>
    ifB t23
    (
     obind (z15 h_17 6 ([.int .i64 0,.int .u64 0,.int .u64 0,.int .u64 0,.int .u64 0,.nsl]:List AV) (z6 h_2)) fun h_34=>
     obind (z15 h_34 2 ([.int .i64 3,.int .i64 64]:List AV) (z6 h_4)) fun h_36=>
     obind (z16 h_36 6 (z6 h_2)) fun w2_39=>
     obind (z16 h_36 2 (z6 h_4)) fun w3_41=>
     some (.ret (.tup [.agg w2_39,.agg w3_41]),h_36))
    (
     obind (z49 1 v1) fun t26=>
     obind (z7 h_17 t26) fun v27=>
     obind (z1c4 v27) fun t27=>
     outK (z118 h_17 112 (some (.agg ([strA t27,.int .i64 0]:List AV)))) fun v29 h_46=>
     lett (newH h_46 110 [.nilp]) fun h_48=>
     obind (z15 h_48 1 (AV.cells v29) (z6 h_46)) fun h_50=>
     callN (call 54 [(AV.fn 55 [] [(z6 h_46),v1,(z6 h_2)])] h_50) fun r31 h_53=>
     obind (z65 r31) fun t31=>
     obind (z15 h_53 2 t31 (z6 h_4)) fun h_56=>
     obind (z7 h_56 (AV.ptr (AHeap.next h_4) 0)) fun v33=>
     obind (avInt .i64 v33) fun t33=>
     lett ((t33:Int) != 0) fun (t34:Bool)=>
     ifB t34
     (
      obind (z16 h_56 2 (z6 h_4)) fun t36=>
      obind (z15 h_56 6 ([.int .i64 0,.int .u64 0,.int .u64 0,.int .u64 0,.int .u64 0,.nsl]:List AV) (z6 h_2)) fun h_65=>
      chk (z135 Pg h_65 70 (z6 h_4) (.agg t36)&&true)<|
      obind (z15 h_65 2 t36 (z6 h_4)) fun h_68=>
      obind (z16 h_68 6 (z6 h_2)) fun w2_71=>
      obind (z16 h_68 2 (z6 h_4)) fun w3_73=>
      some (.ret (.tup [.agg w2_71,.agg w3_73]),h_68))
     (
      obind (z16 h_56 6 (z6 h_2)) fun t37=>
      obind (z16 h_56 2 (z6 h_4)) fun t38=>
      obind (z15 h_56 6 t37 (z6 h_2)) fun h_77=>
      chk (z135 Pg h_77 70 (z6 h_4) (.agg t38)&&(true&&true))<|
      obind (z15 h_77 2 t38 (z6 h_4)) fun h_80=>
      obind (z16 h_80 6 (z6 h_2)) fun w2_83=>
      obind (z16 h_80 2 (z6 h_4)) fun w3_85=>
      some (.ret (.tup [.agg w2_83,.agg w3_85]),h_80))))) fun j17=>
  ifB t12
  (
   obind (z49 0 v1) fun t14=>
   obind (z7 h_14 t14) fun v15=>
   obind (avInt .i64 v15) fun t15=>
   lett ((t15:Int) != 3) fun (t16:Bool)=>
   j17 t16 h_14)
  (
   j17 false h_14)) fun j12=>
 ifB t7
 (
  obind (z49 0 v1) fun t9=>
  obind (z7 h_6 t9) fun v10=>
  obind (avInt .i64 v10) fun t10=>
  lett ((t10:Int) != 2) fun (t11:Bool)=>
  j12 t11 h_6)
 (
  j12 false h_6)
theorem z2a7{call:zc}(hc:SaysAll Pg call){n:Nat}{t0:List AV}{h:AHeap}{rR:ARes}{hR:AHeap}(z:z12 call n t0 h=some (rR,hR)):Says Pg 36 [.agg t0] h rR hR:=by
 unfold z12 at z;refine sO Tryd.func36 fun w0 m0=>?_;refine wW [(0,.agg t0)] ?_;refine oG fun n1=>W.r ?_;refine oK 1 z fun v1 h_2 z=>?_;refine oN 2 z fun h_4 z=>?_;refine oN 3 z fun h_6 z=>?_;refine oV [(1,v1),(2,z6 h_2),(3,z6 h_4)] (n1 ?_);refine oH fun n8 q8=>?_;refine W.s (fun K9 n9 _ _ _=>?_);refine W.r ?_;refine oF 5 51 0 z fun t5 z=>?_;refine oLi 6 3 z fun t6 z=>?_;refine oB 7 z fun t7 z=>?_;refine oA 8 (.bool t7) ?_;obtain⟨j12,e15,z⟩:=lS z
 have J16:∀(t12:Bool) (h_14:AHeap),j12 t12 h_14=some (rR,hR)→WL Pg w0 m0 (Func.ntmps Tryd.f36) (Code.ops (y4 (y4 (y3 (z55 Tryd.f36))))) 8 K9 [(1,v1),(2,z6 h_2),(3,z6 h_4),(12,.bool t12)] [] h_14:=by
  intro t12 h_14 z;rw[e15] at z;refine oA 13 (.bool t12) ?_;obtain⟨j17,e18,z⟩:=lS z
  have J19:∀(t17:Bool) (h_17:AHeap),j17 t17 h_17=some (rR,hR)→WL Pg w0 m0 (Func.ntmps Tryd.f36) (Code.ops (y4 (y4 (y3 (z55 Tryd.f36))))) 13 K9 [(1,v1),(2,z6 h_2),(3,z6 h_4),(17,.bool t17)] [] h_17:=by
   intro t17 h_17 z;rw[e18] at z;refine oV [(1,v1),(2,z6 h_2),(3,z6 h_4),(17,.bool t17)] (n9 ?_)
   cases t17 with
   |true=>
    refine oT z fun z=>?_;refine oG fun n20=>W.r ?_;refine oA 18 (.agg ([.int .i64 0,.int .u64 0,.int .u64 0,.int .u64 0,.int .u64 0,.nsl]:List AV)) ?_;refine oA 19 (.agg ([.int .i64 2,.int .i64 0]:List AV)) ?_;refine oW 68 (.agg ([.int .i64 0,.int .u64 0,.int .u64 0,.int .u64 0,.int .u64 0,.nsl]:List AV)) z fun h_21 z=>?_;refine oW 70 (.agg ([.int .i64 2,.int .i64 0]:List AV)) z fun h_23 z=>?_;refine oV [(2,z6 h_2),(3,z6 h_4)] (n20 (oY (q8 ?_)));obtain⟨w2,e25,z⟩:=oS z;obtain⟨w3,e26,z⟩:=oS z;exact lZ z [.cell 2 68,.cell 3 70] [.agg w2,.agg w3] (rY e25 (rY e26 zd))
   |false=>
    refine oU z fun z=>?_;refine oZ (n8 ?_);refine oH fun n27 q27=>?_;refine oG fun n28=>W.r ?_;refine oF 20 51 1 z fun t20 z=>?_;refine oLs 21 9 z fun t21 z=>?_;refine oA 22 (.int .i64 (z115 t21)) ?_;refine oB 23 z fun t23 z=>?_;refine oV [(1,v1),(2,z6 h_2),(3,z6 h_4),(23,.bool t23)] (n28 ?_)
    cases t23 with
    |true=>
     refine oT z fun z=>?_;refine oG fun n33=>W.r ?_;refine oA 24 (.agg ([.int .i64 0,.int .u64 0,.int .u64 0,.int .u64 0,.int .u64 0,.nsl]:List AV)) ?_;refine oA 25 (.agg ([.int .i64 3,.int .i64 64]:List AV)) ?_;refine oW 68 (.agg ([.int .i64 0,.int .u64 0,.int .u64 0,.int .u64 0,.int .u64 0,.nsl]:List AV)) z fun h_34 z=>?_;refine oW 70 (.agg ([.int .i64 3,.int .i64 64]:List AV)) z fun h_36 z=>?_;refine oV [(2,z6 h_2),(3,z6 h_4)] (n33 (oY (q27 ?_)));obtain⟨w2_39,e38,z⟩:=oS z;obtain⟨w3_41,e40,z⟩:=oS z;exact lZ z [.cell 2 68,.cell 3 70] [.agg w2_39,.agg w3_41] (rY e38 (rY e40 zd))
    |false=>
     refine oU z fun z=>?_;refine oZ (n27 ?_);refine oG fun n42=>W.r ?_;refine oF 26 51 1 z fun t26 z=>?_;refine oLs 27 9 z fun t27 z=>?_;refine oA 28 (.agg ([strA t27,.int .i64 0]:List AV)) ?_;refine oK 29 z fun v29 h_46 z=>?_;refine oN 4 z fun h_48 z=>?_;refine oW 110 v29 z fun h_50 z=>?_;refine oV [(1,v1),(2,z6 h_2),(3,z6 h_4),(4,z6 h_46)] (n42 ?_);refine oG fun n52=>W.r ?_;refine oA 30 (AV.fn 55 [] [(z6 h_46),v1,(z6 h_2)]) ?_;refine oCa hc 31 z fun t31 h_53 z=>?_;refine oW 70 (.agg t31) z fun h_56 z=>?_;refine oV [(2,z6 h_2),(3,z6 h_4)] (n52 ?_);refine oH fun n58 q58=>?_;refine oG fun n59=>W.r ?_;refine oA 32 (AV.ptr (AHeap.next h_4) 0) ?_;refine oLi 33 32 z fun t33 z=>?_;refine oB 34 z fun t34 z=>?_;refine oV [(2,z6 h_2),(3,z6 h_4),(34,.bool t34)] (n59 ?_)
     cases t34 with
     |true=>
      refine oT z fun z=>?_;refine oG fun n63=>?_;refine y21 (by kernel_rfl) (hc.ok w0) (plan:=[0,1,2,3]) (by kernel_rfl) (by kernel_rfl) (by kernel_rfl) ?_;refine WD.a 0 (some 35) (.agg ([.int .i64 0,.int .u64 0,.int .u64 0,.int .u64 0,.int .u64 0,.nsl]:List AV)) h_56 ?_;obtain⟨t36,e64,z⟩:=oS z;refine WD.b 1 (some 36) (.agg t36) h_56 (zb1 (P:=Pg) (h:=h_56) (t:=70) (by kernel_rfl) (by kernel_rfl) e64) ?_;obtain⟨h_65,e66,z⟩:=oS z;obtain⟨k67,z⟩:=z161 z;refine WD.eff (h':=h_65) (by kernel_rfl) (by kernel_rfl) (Eq.trans (by kernel_rfl) (z3f (P:=Pg) (h:=h_56) (t:=68) (v:=(.agg ([.int .i64 0,.int .u64 0,.int .u64 0,.int .u64 0,.int .u64 0,.nsl]:List AV))) (by kernel_rfl) (by kernel_rfl) e66)) (k:=2) (by kernel_rfl) (fun _=>(Eq.trans (by kernel_rfl) k67)) (by decide) ?_;obtain⟨h_68,e69,z⟩:=oS z;refine WD.eff (h':=h_68) (by kernel_rfl) (by kernel_rfl) (Eq.trans (by kernel_rfl) (z3f (P:=Pg) (h:=h_65) (t:=70) (v:=(.agg t36)) (by kernel_rfl) (by kernel_rfl) e69)) (k:=2) (by kernel_rfl) (fun _=>(by kernel_rfl)) (by decide) ?_;refine WD.nil ?_;refine gW [(2,z6 h_2),(3,z6 h_4)] (n63 (oY (q58 ?_)));obtain⟨w2_71,e70,z⟩:=oS z;obtain⟨w3_73,e72,z⟩:=oS z;exact lZ z [.cell 2 68,.cell 3 70] [.agg w2_71,.agg w3_73] (rY e70 (rY e72 zd))
     |false=>
      refine oU z fun z=>?_;refine oZ (n58 ?_);refine oG fun n74=>?_;refine y21 (by kernel_rfl) (hc.ok w0) (plan:=[0,1,2,3]) (by kernel_rfl) (by kernel_rfl) (by kernel_rfl) ?_;obtain⟨t37,e75,z⟩:=oS z;refine WD.b 1 (some 37) (.agg t37) h_56 (zb1 (P:=Pg) (h:=h_56) (t:=68) (by kernel_rfl) (by kernel_rfl) e75) ?_;obtain⟨t38,e76,z⟩:=oS z;refine WD.b 1 (some 38) (.agg t38) h_56 (zb1 (P:=Pg) (h:=h_56) (t:=70) (by kernel_rfl) (by kernel_rfl) e76) ?_;obtain⟨h_77,e78,z⟩:=oS z;obtain⟨k79,z⟩:=z161 z;refine WD.eff (h':=h_77) (by kernel_rfl) (by kernel_rfl) (Eq.trans (by kernel_rfl) (z3f (P:=Pg) (h:=h_56) (t:=68) (v:=(.agg t37)) (by kernel_rfl) (by kernel_rfl) e78)) (k:=2) (by kernel_rfl) (fun _=>(Eq.trans (by kernel_rfl) k79)) (by decide) ?_;obtain⟨h_80,e81,z⟩:=oS z;refine WD.eff (h':=h_80) (by kernel_rfl) (by kernel_rfl) (Eq.trans (by kernel_rfl) (z3f (P:=Pg) (h:=h_77) (t:=70) (v:=(.agg t38)) (by kernel_rfl) (by kernel_rfl) e81)) (k:=2) (by kernel_rfl) (fun _=>(by kernel_rfl)) (by decide) ?_;refine WD.nil ?_;refine gW [(2,z6 h_2),(3,z6 h_4)] (n74 (oY ?_));obtain⟨w2_83,e82,z⟩:=oS z;obtain⟨w3_85,e84,z⟩:=oS z;exact lZ z [.cell 2 68,.cell 3 70] [.agg w2_83,.agg w3_85] (rY e82 (rY e84 zd))
  cases t12 with
  |true=>
   replace z:=zc3 z
   refine oF 14 51 0 z fun t14 z=>?_;refine oLi 15 3 z fun t15 z=>?_;refine oB 16 z fun t16 z=>?_;refine oA 17 (.bool t16) ?_;exact lW _ (J19 _ _ z)
  |false=>
   replace z:=zc4 z
   refine WL.o (some 14) ?_;refine WL.o (some 15) ?_;refine WL.o (some 16) ?_;refine oA 17 (.bool false) ?_;exact lW _ (J19 _ _ z)
 cases t7 with
 |true=>
  replace z:=zc3 z
  refine oF 9 51 0 z fun t9 z=>?_;refine oLi 10 3 z fun t10 z=>?_;refine oB 11 z fun t11 z=>?_;refine oA 12 (.bool t11) ?_;exact lW _ (J16 _ _ z)
 |false=>
  replace z:=zc4 z
  refine WL.o (some 9) ?_;refine WL.o (some 10) ?_;refine WL.o (some 11) ?_;refine oA 12 (.bool false) ?_;exact lW _ (J16 _ _ z)
noncomputable def z9b(call:zc)(_:Nat)(t0:AV)(t1:AV)(t2:AV)(h:AHeap):R:=obind (z7 h t0) fun v3=>obind (z49 0 t1) fun t4=>obind (z7 h t4) fun v5=>obind (avInt .i64 v5) fun t5=>callK (call 56 [v3,.int .i64 t5] h) fun r6 h_5=>obind (z65 r6) fun t6=>obind (z15 h_5 6 t6 t2) fun h_8=>some (.ret (.tup []),h_8)
theorem z253{call:zc}(hc:SaysAll Pg call){n:Nat}{t0:AV}{t1:AV}{t2:AV}{h:AHeap}{rR:ARes}{hR:AHeap}(z:z9b call n t0 t1 t2 h=some (rR,hR)):Says Pg 55 [t0,t1,t2] h rR hR:=by
 unfold z9b at z;refine sO Tryd.func55 fun w0 m0=>?_;refine wW [(0,t0),(1,t1),(2,t2)] ?_;refine W.r ?_;refine oL 3 110 z fun v3 z=>?_;refine oF 4 51 0 z fun t4 z=>?_;refine oLi 5 3 z fun t5 z=>?_;refine oCK hc (some 6) z (fun q=>Pf q) fun r6 h_5 z=>?_
 replace z:=oS z;obtain⟨t6,c7,z⟩:=z
 have c7:=z4e c7;subst c7;refine oW 68 (.agg t6) z fun h_8 z=>?_;refine oV [] ?_;exact lY z [] [] zd
noncomputable def z21(call:zc)(_:Nat)(t0:AV)(t1:Int)(h:AHeap):R:=lett (newH h 68 [.int .i64 0,.int .u64 0,.int .u64 0,.int .u64 0,.int .u64 0,.nsl]) fun h_2=>lett ((t1:Int) == 2) fun (t8:Bool)=>ifB t8 (callK (call 74 [t0,(AV.fn 75 [t0] [])] h_2) fun r12 h_10=>obind (z65 r12) fun t12=>obind (z15 h_10 6 t12 (z6 h)) fun h_13=>obind (z16 h_13 6 (z6 h)) fun w4=>some (.ret (.agg w4),h_13)) (lett ((t1:Int) == 3) fun (t14:Bool)=>ifB t14 (callK (call 76 [t0] h_2) fun r16 h_20=>obind (z65 r16) fun t16=>lett (newH h_20 68 [.int .i64 0,.int .u64 0,.int .u64 0,.int .u64 0,.int .u64 0,.nsl]) fun h_23=>obind (z15 h_23 6 t16 (z6 h_20)) fun h_25=>callK (call 77 [t0] h_25) fun _ h_28=>obind (z16 h_28 6 (z6 h_20)) fun t19=>obind (z15 h_28 6 t19 (z6 h)) fun h_32=>obind (z16 h_32 6 (z6 h)) fun w4_35=>some (.ret (.agg w4_35),h_32)) (callK (call 74 [t0,(AV.fn 78 [t0] [])] h_2) fun r23 h_39=>obind (z65 r23) fun t23=>obind (z15 h_39 6 t23 (z6 h)) fun h_42=>obind (z16 h_42 6 (z6 h)) fun w4_45=>some (.ret (.agg w4_45),h_42)))
theorem z1a0{call:zc}(hc:SaysAll Pg call){n:Nat}{t0:AV}{t1:Int}{h:AHeap}{rR:ARes}{hR:AHeap}(z:z21 call n t0 t1 h=some (rR,hR)):Says Pg 56 [t0,.int .i64 t1] h rR hR:=by
 unfold z21 at z;refine sO Tryd.func56 fun w0 m0=>?_;refine wW [(0,t0),(1,.int .i64 t1)] ?_;refine oG fun n1=>W.r ?_;refine oN 4 z fun h_2 z=>?_;refine oV [(0,t0),(1,.int .i64 t1),(4,z6 h)] (n1 ?_);refine W.s (fun _ n4 _ q4 p4=>?_);refine oG fun n5=>W.r ?_;refine oA 6 (.int .i64 t1) ?_;refine oV [(0,t0),(4,z6 h),(6,.int .i64 t1)] (n5 ?_);refine yc (by kernel_rfl) (fun K6 n6 s6 o6 q6 p6=>?_);refine oG fun n7=>W.r ?_;refine oB 8 z fun t8 z=>?_;refine oA 7 (.bool t8) ?_;refine oV [(0,t0),(4,z6 h),(6,.int .i64 t1),(7,.bool t8)] (n7 ?_)
 cases t8 with
 |true=>
  refine oT z fun z=>?_;refine oJ fun n9 p9=>W.r ?_;refine oA 9 t0 ?_;refine oA 10 t0 ?_;refine oA 11 (AV.fn 75 [t0] []) ?_;refine oCK hc (some 12) z (fun q=>p9 (p6 (p4 (Pf q)))) fun r12 h_10 z=>?_
  replace z:=oS z;obtain⟨t12,c12,z⟩:=z
  have c12:=z4e c12;subst c12;refine oW 68 (.agg t12) z fun h_13 z=>?_;refine oV [(4,z6 h)] (n9 (oY (q6 (q4 ?_))));obtain⟨w4,e15,z⟩:=oS z;exact lZ z [.cell 4 68] [.agg w4] (rY e15 zd)
 |false=>
  refine oU z fun z=>?_;refine oG fun n17=>W.r ?_;refine oB 14 z fun t14 z=>?_;refine oA 13 (.bool t14) ?_;refine oV [(0,t0),(4,z6 h),(13,.bool t14)] (n17 ?_)
  cases t14 with
  |true=>
   refine oT z fun z=>?_;refine oJ fun n19 p19=>W.r ?_;refine oA 15 t0 ?_;refine oCK hc (some 16) z (fun q=>p19 (p6 (p4 (Pf q)))) fun r16 h_20 z=>?_
   replace z:=oS z;obtain⟨t16,c22,z⟩:=z
   have c22:=z4e c22;subst c22;refine oN 5 z fun h_23 z=>?_;refine oW 68 (.agg t16) z fun h_25 z=>?_;refine oV [(0,t0),(4,z6 h),(5,z6 h_20)] (n19 ?_);refine oJ fun n27 p27=>W.r ?_;refine oA 17 t0 ?_;refine oCK hc (some 18) z (fun q=>p27 (p6 (p4 (Pf q)))) fun r18 h_28 z=>?_;refine oV [(4,z6 h),(5,z6 h_20)] (n27 ?_);refine oG fun n30=>W.r ?_;refine oR 19 68 z fun t19 z=>?_;refine oW 68 (.agg t19) z fun h_32 z=>?_;refine oV [(4,z6 h)] (n30 (oY (q6 (q4 ?_))));obtain⟨w4_35,e34,z⟩:=oS z;exact lZ z [.cell 4 68] [.agg w4_35] (rY e34 zd)
  |false=>
   refine oU z fun z=>?_;refine oZ (n6 (n4 ?_));refine oJ fun n38 p38=>W.r ?_;refine oA 20 t0 ?_;refine oA 21 t0 ?_;refine oA 22 (AV.fn 78 [t0] []) ?_;refine oCK hc (some 23) z (fun q=>p38 (Pf q)) fun r23 h_39 z=>?_
   replace z:=oS z;obtain⟨t23,c41,z⟩:=z
   have c41:=z4e c41;subst c41;refine oW 68 (.agg t23) z fun h_42 z=>?_;refine oV [(4,z6 h)] (n38 (oY ?_));obtain⟨w4_45,e44,z⟩:=oS z;exact lZ z [.cell 4 68] [.agg w4_45] (rY e44 zd)
noncomputable def z43(call:zc)(t0:AV)(t1:AV)(k7:AV→AHeap→R)(self:AV→AHeap→R)(t5_17:AV)(h_18:AHeap):R:=callN (call 81 [t0] h_18) fun r7 h_21=>obind (z23 r7) fun t7=>lett (!t7) fun (t8:Bool)=>ifB t8 (callK (z479 Pg call t1 [] h_21) fun r11 h_26=>obind (z65 r11) fun t11=>outK (z16e Pg h_26 66 1 [(0,.agg t11)]) fun v12 h_29=>outK (z7e Pg h_29 66 66 t5_17 v12) fun v13 h_31=>self v13 h_31) (k7 t5_17 h_21)
noncomputable def z67(call:zc)(t0:AV)(t1:AV)(k7:AV→AHeap→R):Nat→AV→AHeap→R:=ze6 (fun _ _=>none) (z43 call t0 t1 k7)
theorem z7d(call:zc)(t0:AV)(t1:AV)(k7:AV→AHeap→R)(m:Nat):z67 call t0 t1 k7 (m+1)=z43 call t0 t1 k7 (z67 call t0 t1 k7 m):=rfl
noncomputable def z6f(call:zc)(n:Nat)(t0:AV)(t1:AV)(h:AHeap):R:=lett (newH h 68 [.int .i64 0,.int .u64 0,.int .u64 0,.int .u64 0,.int .u64 0,.nsl]) fun h_2=>lett (fun (t5:AV) (h_8:AHeap)=>callN (call 82 [t5] h_8) fun r15 h_10=>obind (z65 r15) fun t15=>obind (z15 h_10 6 t15 (z6 h)) fun h_13=>obind (z16 h_13 6 (z6 h)) fun w4=>some (.ret (.agg w4),h_13)) fun k7=>z67 call t0 t1 k7 n AV.nsl h_2
theorem z1b2{call:zc}(hc:SaysAll Pg call){n:Nat}{t0:AV}{t1:AV}{h:AHeap}{rR:ARes}{hR:AHeap}(z:z6f call n t0 t1 h=some (rR,hR)):Says Pg 74 [t0,t1] h rR hR:=by
 unfold z6f at z;refine sO Tryd.func74 fun w0 m0=>?_;refine wW [(0,t0),(1,t1)] ?_;refine oG fun n1=>W.r ?_;refine oN 4 z fun h_2 z=>?_;refine oV [(0,t0),(1,t1),(4,z6 h)] (n1 ?_);refine oG fun n4=>W.r ?_;refine oA 5 AV.nsl ?_;refine oV [(0,t0),(1,t1),(4,z6 h),(5,AV.nsl)] (n4 ?_);refine W.s (fun K5 n5 _ _ p5=>?_);obtain⟨k7,e7,z⟩:=lS z
 have J7:∀(t5:AV) (h_8:AHeap),k7 t5 h_8=some (rR,hR)→Go w0 m0 (Func.ntmps Tryd.f74) (K5 .normal) [(4,z6 h),(5,t5)] [] h_8:=by
  intro t5 h_8 z;rw[e7] at z;refine n5 ?_;refine oG fun n9=>W.r ?_;refine oA 14 t5 ?_;refine oCa hc 15 z fun t15 h_10 z=>?_;refine oW 68 (.agg t15) z fun h_13 z=>?_;refine oV [(4,z6 h)] (n9 (oY ?_));obtain⟨w4,e15,z⟩:=oS z;exact lZ z [.cell 4 68] [.agg w4] (rY e15 zd)
 refine yc (by kernel_rfl) (fun K6 n6 s6 o6 q6 p6=>?_);refine y14 (by kernel_rfl) (fun I16 K16 b16 n16 e16 q16 p16=>?_)
 have L16:∀(m:Nat) (t5_17:AV) (h_18:AHeap),z67 call t0 t1 k7 m t5_17 h_18=some (rR,hR)→Go w0 m0 (Func.ntmps Tryd.f74) I16 [(0,t0),(1,t1),(4,z6 h),(5,t5_17)] [] h_18:=by
  intro m
  induction m with
  |zero=>intro t5_17 h_18 z;cases z
  |succ m ih16=>
   intro t5_17 h_18 z;rw[z7d] at z;unfold z43 at z;refine b16 ?_;refine W.s (fun _ n19 e19 _ _=>?_);refine oG fun n20=>W.r ?_;refine oA 6 t0 ?_;refine oCb hc 7 z fun t7 h_21 z=>?_;refine oB 8 z fun t8 z=>?_;refine oV [(0,t0),(1,t1),(4,z6 h),(5,t5_17),(8,.bool t8)] (n20 ?_)
   cases t8 with
   |true=>
    refine oT z fun z=>?_;refine oZ (n19 ?_);refine yc (by kernel_rfl) (fun K25 n25 s25 o25 q25 p25=>?_);refine W.r ?_;refine oA 9 t5_17 ?_;refine oA 10 t1 ?_
    replace z:=z328 z;rcases z with⟨r11,h_26,e27,z⟩|⟨r11,h_26,e27,q34⟩
    ·replace z := oS z; obtain ⟨t11, c28, z⟩ := z
     have c28:=z4e c28;subst c28
     rcases z238 e27 with⟨d33g,d33as,d33h,d331,d332⟩|⟨d33v,d33h,d331,d332⟩
     rotate_left
     ·cases d332
      refine WL.val (d:=(some 11)) (by kernel_rfl) (by kernel_rfl) (Eq.trans (by kernel_rfl) d331) ?_;obtain⟨v12,h_29,e30,z⟩:=z3c z;refine WL.b (some 12) v12 h_29 e30 ?_;obtain⟨v13,h_31,e32,z⟩:=z3c z;refine WL.b (some 13) v13 h_31 e32 ?_;refine oA 5 v13 ?_;refine oV [(0,t0),(1,t1),(4,z6 h),(5,v13)] (n25 (n16 ?_));exact gW _ (ih16 _ _ z)
     ·refine WL.call (hc.ok w0) (d := (some 11)) (by kernel_rfl) (by kernel_rfl) (Eq.trans (by kernel_rfl) d331) d332 ?_
      obtain⟨v12,h_29,e30,z⟩:=z3c z;refine WL.b (some 12) v12 h_29 e30 ?_;obtain⟨v13,h_31,e32,z⟩:=z3c z;refine WL.b (some 13) v13 h_31 e32 ?_;refine oA 5 v13 ?_;refine oV [(0,t0),(1,t1),(4,z6 h),(5,v13)] (n25 (n16 ?_));exact gW _ (ih16 _ _ z)
    ·obtain ⟨zq, zr⟩ := pan_inj q34; subst zq; subst zr
     rcases z238 e27 with⟨d33g,d33as,d33h,d331,d332⟩|⟨d33v,d33h,d331,d332⟩
     ·exact y3d (hc.ok w0) (d:=(some 11)) (by kernel_rfl) (by kernel_rfl) (Eq.trans (by kernel_rfl) d331) d332 (p25 (p16 (p6 (p5 y5a))))
     ·cases d332
   |false=>
    refine oU z fun z=>?_;refine W.exit (by kernel_rfl) ?_;refine e19 (e16 ?_);refine s6 (by kernel_rfl) ?_;exact gW _ (J7 _ _ z)
 exact gW _ (L16 _ _ _ z)
noncomputable def z29(call:zc)(_:Nat)(t0:AV)(h:AHeap):R:=lett (newH h 68 [.int .i64 0,.int .u64 0,.int .u64 0,.int .u64 0,.int .u64 0,.nsl]) fun h_2=>callK (call 83 [t0] h_2) fun r4 h_5=>obind (avInt .u8 r4) fun t4=>callN (call 86 [.int .u8 t4] h_5) fun r5 h_8=>obind (z65 r5) fun t5=>obind (z15 h_8 6 t5 (z6 h)) fun h_11=>obind (z16 h_11 6 (z6 h)) fun w2=>some (.ret (.agg w2),h_11)
theorem z132{call:zc}(hc:SaysAll Pg call){n:Nat}{t0:AV}{h:AHeap}{rR:ARes}{hR:AHeap}(z:z29 call n t0 h=some (rR,hR)):Says Pg 78 [t0] h rR hR:=by
 unfold z29 at z;refine sO Tryd.func78 fun w0 m0=>?_;refine wW [(0,t0)] ?_;refine oG fun n1=>W.r ?_;refine oN 2 z fun h_2 z=>?_;refine oV [(0,t0),(2,z6 h)] (n1 ?_);refine oJ fun n4 p4=>W.r ?_;refine oA 3 t0 ?_;refine oCK hc (some 4) z (fun q=>p4 (Pf q)) fun r4 h_5 z=>?_
 replace z:=oS z;obtain⟨t4,c7,z⟩:=z
 have c7:=z17 c7;subst c7;refine oCa hc 5 z fun t5 h_8 z=>?_;refine oW 68 (.agg t5) z fun h_11 z=>?_;refine oV [(2,z6 h)] (n4 (oY ?_));obtain⟨w2,e13,z⟩:=oS z;exact lZ z [.cell 2 68] [.agg w2] (rY e13 zd)
noncomputable def z1d(call:zc)(_:Nat)(t0:AV)(h:AHeap):R:=lett (newH h 68 [.int .i64 0,.int .u64 0,.int .u64 0,.int .u64 0,.int .u64 0,.nsl]) fun h_2=>callK (call 83 [t0] h_2) fun r5 h_5=>obind (avInt .u8 r5) fun t5=>lett ((t5:Int) == 42) fun (t10:Bool)=>ifB t10 (callN (call 85 [] h_5) fun r11 h_13=>obind (z65 r11) fun t11=>outK (z16e Pg h_13 66 1 [(0,.agg t11)]) fun v12 h_16=>callN (call 84 [.int .i64 5,v12] h_16) fun r13 h_18=>obind (z65 r13) fun t13=>obind (z15 h_18 6 t13 (z6 h)) fun h_21=>obind (z16 h_21 6 (z6 h)) fun w2=>some (.ret (.agg w2),h_21)) (lett ((t5:Int) == 63) fun (t15:Bool)=>ifB t15 (callN (call 85 [] h_5) fun r16 h_27=>obind (z65 r16) fun t16=>obind (z15 h_27 6 t16 (z6 h)) fun h_30=>obind (z16 h_30 6 (z6 h)) fun w2_33=>some (.ret (.agg w2_33),h_30)) (lett ((t5:Int) == 92) fun (t18:Bool)=>ifB t18 (callK (call 83 [t0] h_5) fun r20 h_37=>obind (avInt .u8 r20) fun t20=>callN (call 86 [.int .u8 t20] h_37) fun r21 h_40=>obind (z65 r21) fun t21=>obind (z15 h_40 6 t21 (z6 h)) fun h_43=>obind (z16 h_43 6 (z6 h)) fun w2_46=>some (.ret (.agg w2_46),h_43)) (callN (call 86 [.int .u8 t5] h_5) fun r8 h_49=>obind (z65 r8) fun t8=>obind (z15 h_49 6 t8 (z6 h)) fun h_52=>obind (z16 h_52 6 (z6 h)) fun w2_55=>some (.ret (.agg w2_55),h_52))))
theorem z154{call:zc}(hc:SaysAll Pg call){n:Nat}{t0:AV}{h:AHeap}{rR:ARes}{hR:AHeap}(z:z1d call n t0 h=some (rR,hR)):Says Pg 75 [t0] h rR hR:=by
 unfold z1d at z;refine sO Tryd.func75 fun w0 m0=>?_;refine wW [(0,t0)] ?_;refine oG fun n1=>W.r ?_;refine oN 2 z fun h_2 z=>?_;refine oV [(0,t0),(2,z6 h)] (n1 ?_);refine oJ fun n4 p4=>W.r ?_;refine oA 4 t0 ?_;refine oCK hc (some 5) z (fun q=>p4 (Pf q)) fun r5 h_5 z=>?_
 replace z:=oS z;obtain⟨t5,c7,z⟩:=z
 have c7:=z17 c7;subst c7;refine oA 3 (.int .u8 t5) ?_;refine oV [(0,t0),(2,z6 h),(3,.int .u8 t5)] (n4 ?_);refine oG fun n8=>W.r ?_;refine oA 6 (.int .u8 t5) ?_;refine oV [(0,t0),(2,z6 h),(3,.int .u8 t5),(6,.int .u8 t5)] (n8 ?_);refine yc (by kernel_rfl) (fun K9 n9 s9 o9 q9 p9=>?_);refine oG fun n10=>W.r ?_;refine oB 10 z fun t10 z=>?_;refine oA 9 (.bool t10) ?_;refine oV [(0,t0),(2,z6 h),(3,.int .u8 t5),(6,.int .u8 t5),(9,.bool t10)] (n10 ?_)
 cases t10 with
 |true=>
  refine oT z fun z=>?_;refine oG fun n12=>W.r ?_;refine oCa hc 11 z fun t11 h_13 z=>?_;refine oK 12 z fun v12 h_16 z=>?_;refine oCa hc 13 z fun t13 h_18 z=>?_;refine oW 68 (.agg t13) z fun h_21 z=>?_;refine oV [(2,z6 h)] (n12 (oY (q9 ?_)));obtain⟨w2,e23,z⟩:=oS z;exact lZ z [.cell 2 68] [.agg w2] (rY e23 zd)
 |false=>
  refine oU z fun z=>?_;refine oG fun n24=>W.r ?_;refine oB 15 z fun t15 z=>?_;refine oA 14 (.bool t15) ?_;refine oV [(0,t0),(2,z6 h),(3,.int .u8 t5),(6,.int .u8 t5),(14,.bool t15)] (n24 ?_)
  cases t15 with
  |true=>
   refine oT z fun z=>?_;refine oG fun n26=>W.r ?_;refine oCa hc 16 z fun t16 h_27 z=>?_;refine oW 68 (.agg t16) z fun h_30 z=>?_;refine oV [(2,z6 h)] (n26 (oY (q9 ?_)));obtain⟨w2_33,e32,z⟩:=oS z;exact lZ z [.cell 2 68] [.agg w2_33] (rY e32 zd)
  |false=>
   refine oU z fun z=>?_;refine oG fun n34=>W.r ?_;refine oB 18 z fun t18 z=>?_;refine oA 17 (.bool t18) ?_;refine oV [(0,t0),(2,z6 h),(3,.int .u8 t5),(17,.bool t18)] (n34 ?_)
   cases t18 with
   |true=>
    refine oT z fun z=>?_;refine oJ fun n36 p36=>W.r ?_;refine oA 19 t0 ?_;refine oCK hc (some 20) z (fun q=>p36 (p9 (Pf q))) fun r20 h_37 z=>?_
    replace z:=oS z;obtain⟨t20,c39,z⟩:=z
    have c39:=z17 c39;subst c39;refine oCa hc 21 z fun t21 h_40 z=>?_;refine oW 68 (.agg t21) z fun h_43 z=>?_;refine oV [(2,z6 h)] (n36 (oY (q9 ?_)));obtain⟨w2_46,e45,z⟩:=oS z;exact lZ z [.cell 2 68] [.agg w2_46] (rY e45 zd)
   |false=>
    refine oU z fun z=>?_;refine oG fun n48=>W.r ?_;refine oA 7 (.int .u8 t5) ?_;refine oCa hc 8 z fun t8 h_49 z=>?_;refine oW 68 (.agg t8) z fun h_52 z=>?_;refine oV [(2,z6 h)] (n48 (oY (q9 ?_)));obtain⟨w2_55,e54,z⟩:=oS z;exact lZ z [.cell 2 68] [.agg w2_55] (rY e54 zd)
noncomputable def z25(call:zc)(t0:AV)(k12:AV→AHeap→R)(self:AV→AHeap→R)(t3_33:AV)(h_34:AHeap):R:=callN (call 88 [t0,.int .u8 124] h_34) fun r8 h_37=>obind (z23 r8) fun t8=>ifB t8 (callK (call 87 [t0] h_37) fun r11 h_41=>obind (z65 r11) fun t11=>outK (z16e Pg h_41 66 1 [(0,.agg t11)]) fun v12 h_44=>outK (z7e Pg h_44 66 66 t3_33 v12) fun v13 h_46=>self v13 h_46) (k12 t3_33 h_37)
noncomputable def z2e(call:zc)(t0:AV)(k12:AV→AHeap→R):Nat→AV→AHeap→R:=ze6 (fun _ _=>none) (z25 call t0 k12)
theorem z39(call:zc)(t0:AV)(k12:AV→AHeap→R)(m:Nat):z2e call t0 k12 (m+1)=z25 call t0 k12 (z2e call t0 k12 m):=rfl
noncomputable def z26(call:zc)(n:Nat)(t0:AV)(h:AHeap):R:=lett (newH h 68 [.int .i64 0,.int .u64 0,.int .u64 0,.int .u64 0,.int .u64 0,.nsl]) fun h_2=>callK (call 87 [t0] h_2) fun r5 h_5=>obind (z65 r5) fun t5=>outK (z16e Pg h_5 66 1 [(0,.agg t5)]) fun v6 h_8=>lett (fun (t3:AV) (h_13:AHeap)=>obind (z17d t3) fun t15=>lett ((t15:Int) == 1) fun (t16:Bool)=>ifB t16 (obind (z1a8 6 t3 0) fun t18=>obind (z16 h_13 6 t18) fun t19=>obind (z15 h_13 6 t19 (z6 h)) fun h_21=>obind (z16 h_21 6 (z6 h)) fun w2=>some (.ret (.agg w2),h_21)) (callN (call 84 [.int .i64 4,t3] h_13) fun r21 h_25=>obind (z65 r21) fun t21=>obind (z15 h_25 6 t21 (z6 h)) fun h_28=>obind (z16 h_28 6 (z6 h)) fun w2_31=>some (.ret (.agg w2_31),h_28))) fun k12=>z2e call t0 k12 n v6 h_8
theorem z127{call:zc}(hc:SaysAll Pg call){n:Nat}{t0:AV}{h:AHeap}{rR:ARes}{hR:AHeap}(z:z26 call n t0 h=some (rR,hR)):Says Pg 76 [t0] h rR hR:=by
 unfold z26 at z;refine sO Tryd.func76 fun w0 m0=>?_;refine wW [(0,t0)] ?_;refine oG fun n1=>W.r ?_;refine oN 2 z fun h_2 z=>?_;refine oV [(0,t0),(2,z6 h)] (n1 ?_);refine oJ fun n4 p4=>W.r ?_;refine oA 4 t0 ?_;refine oCK hc (some 5) z (fun q=>p4 (Pf q)) fun r5 h_5 z=>?_
 replace z:=oS z;obtain⟨t5,c7,z⟩:=z
 have c7:=z4e c7;subst c7;refine oK 6 z fun v6 h_8 z=>?_;refine oA 3 v6 ?_;refine oV [(0,t0),(2,z6 h),(3,v6)] (n4 ?_);refine W.s (fun K10 n10 _ _ p10=>?_);obtain⟨k12,e12,z⟩:=lS z
 have J12:∀(t3:AV) (h_13:AHeap),k12 t3 h_13=some (rR,hR)→Go w0 m0 (Func.ntmps Tryd.f76) (K10 .normal) [(2,z6 h),(3,t3)] [] h_13:=by
  intro t3 h_13 z;rw[e12] at z;refine n10 ?_;refine oH fun n14 q14=>?_;refine oG fun n15=>W.r ?_;refine oA 14 t3 ?_;refine oM 15 66 68 z fun t15 z=>?_;refine oB 16 z fun t16 z=>?_;refine oV [(2,z6 h),(3,t3),(16,.bool t16)] (n15 ?_)
  cases t16 with
  |true=>
   refine oT z fun z=>?_;refine oG fun n18=>W.r ?_;refine oA 17 t3 ?_;refine oP 18 66 68 .i64 z fun t18 z=>?_;refine oR 19 68 z fun t19 z=>?_;refine oW 68 (.agg t19) z fun h_21 z=>?_;refine oV [(2,z6 h)] (n18 (oY (q14 ?_)));obtain⟨w2,e23,z⟩:=oS z;exact lZ z [.cell 2 68] [.agg w2] (rY e23 zd)
  |false=>
   refine oU z fun z=>?_;refine oZ (n14 ?_);refine oG fun n24=>W.r ?_;refine oA 20 t3 ?_;refine oCa hc 21 z fun t21 h_25 z=>?_;refine oW 68 (.agg t21) z fun h_28 z=>?_;refine oV [(2,z6 h)] (n24 (oY ?_));obtain⟨w2_31,e30,z⟩:=oS z;exact lZ z [.cell 2 68] [.agg w2_31] (rY e30 zd)
 refine yc (by kernel_rfl) (fun K11 n11 s11 o11 q11 p11=>?_);refine y14 (by kernel_rfl) (fun I32 K32 b32 n32 e32 q32 p32=>?_)
 have L32:∀(m:Nat) (t3_33:AV) (h_34:AHeap),z2e call t0 k12 m t3_33 h_34=some (rR,hR)→Go w0 m0 (Func.ntmps Tryd.f76) I32 [(0,t0),(2,z6 h),(3,t3_33)] [] h_34:=by
  intro m
  induction m with
  |zero=>intro t3_33 h_34 z;cases z
  |succ m ih32=>
   intro t3_33 h_34 z;rw[z39] at z;unfold z25 at z;refine b32 ?_;refine W.s (fun _ n35 e35 _ _=>?_);refine oG fun n36=>W.r ?_;refine oA 7 t0 ?_;refine oCb hc 8 z fun t8 h_37 z=>?_;refine oV [(0,t0),(2,z6 h),(3,t3_33),(8,.bool t8)] (n36 ?_)
   cases t8 with
   |true=>
    refine oT z fun z=>?_;refine oZ (n35 ?_);refine yc (by kernel_rfl) (fun K40 n40 s40 o40 q40 p40=>?_);refine W.r ?_;refine oA 9 t3_33 ?_;refine oA 10 t0 ?_;refine oCK hc (some 11) z (fun q=>p40 (p32 (p11 (p10 (Pf q))))) fun r11 h_41 z=>?_
    replace z:=oS z;obtain⟨t11,c43,z⟩:=z
    have c43:=z4e c43;subst c43;refine oK 12 z fun v12 h_44 z=>?_;refine oK 13 z fun v13 h_46 z=>?_;refine oA 3 v13 ?_;refine oV [(0,t0),(2,z6 h),(3,v13)] (n40 (n32 ?_));exact gW _ (ih32 _ _ z)
   |false=>
    refine oU z fun z=>?_;refine W.exit (by kernel_rfl) ?_;refine e35 (e32 ?_);refine s11 (by kernel_rfl) ?_;exact gW _ (J12 _ _ z)
 exact gW _ (L32 _ _ _ z)
noncomputable def z2b(call:zc)(t0:AV)(k7:AV→AHeap→R)(self:AV→AHeap→R)(t3_17:AV)(h_18:AHeap):R:=callN (call 81 [t0] h_18) fun r5 h_21=>obind (z23 r5) fun t5=>lett (!t5) fun (t6:Bool)=>lett (fun (t11:Bool) (h_25:AHeap)=>lett (fun (t16:Bool) (h_28:AHeap)=>ifB t16 (callK (call 93 [t0] h_28) fun r19 h_32=>obind (z65 r19) fun t19=>outK (z16e Pg h_32 66 1 [(0,.agg t19)]) fun v20 h_35=>outK (z7e Pg h_35 66 66 t3_17 v20) fun v21 h_37=>self v21 h_37) (k7 t3_17 h_28)) fun j16=>ifB t11 (callN (call 92 [t0,.int .u8 41] h_25) fun r14 h_40=>obind (z23 r14) fun t14=>lett (!t14) fun (t15:Bool)=>j16 t15 h_40) (j16 false h_25)) fun j11=>ifB t6 (callN (call 92 [t0,.int .u8 124] h_21) fun r9 h_44=>obind (z23 r9) fun t9=>lett (!t9) fun (t10:Bool)=>j11 t10 h_44) (j11 false h_21)
noncomputable def z37(call:zc)(t0:AV)(k7:AV→AHeap→R):Nat→AV→AHeap→R:=ze6 (fun _ _=>none) (z2b call t0 k7)
theorem z41(call:zc)(t0:AV)(k7:AV→AHeap→R)(m:Nat):z37 call t0 k7 (m+1)=z2b call t0 k7 (z37 call t0 k7 m):=rfl
noncomputable def z33(call:zc)(n:Nat)(t0:AV)(h:AHeap):R:=lett (newH h 68 [.int .i64 0,.int .u64 0,.int .u64 0,.int .u64 0,.int .u64 0,.nsl]) fun h_2=>lett (fun (t3:AV) (h_8:AHeap)=>callN (call 82 [t3] h_8) fun r23 h_10=>obind (z65 r23) fun t23=>obind (z15 h_10 6 t23 (z6 h)) fun h_13=>obind (z16 h_13 6 (z6 h)) fun w2=>some (.ret (.agg w2),h_13)) fun k7=>z37 call t0 k7 n AV.nsl h_2
theorem z138{call:zc}(hc:SaysAll Pg call){n:Nat}{t0:AV}{h:AHeap}{rR:ARes}{hR:AHeap}(z:z33 call n t0 h=some (rR,hR)):Says Pg 87 [t0] h rR hR:=by
 unfold z33 at z;refine sO Tryd.func87 fun w0 m0=>?_;refine wW [(0,t0)] ?_;refine oG fun n1=>W.r ?_;refine oN 2 z fun h_2 z=>?_;refine oV [(0,t0),(2,z6 h)] (n1 ?_);refine oG fun n4=>W.r ?_;refine oA 3 AV.nsl ?_;refine oV [(0,t0),(2,z6 h),(3,AV.nsl)] (n4 ?_);refine W.s (fun K5 n5 _ _ p5=>?_);obtain⟨k7,e7,z⟩:=lS z
 have J7:∀(t3:AV) (h_8:AHeap),k7 t3 h_8=some (rR,hR)→Go w0 m0 (Func.ntmps Tryd.f87) (K5 .normal) [(2,z6 h),(3,t3)] [] h_8:=by
  intro t3 h_8 z;rw[e7] at z;refine n5 ?_;refine oG fun n9=>W.r ?_;refine oA 22 t3 ?_;refine oCa hc 23 z fun t23 h_10 z=>?_;refine oW 68 (.agg t23) z fun h_13 z=>?_;refine oV [(2,z6 h)] (n9 (oY ?_));obtain⟨w2,e15,z⟩:=oS z;exact lZ z [.cell 2 68] [.agg w2] (rY e15 zd)
 refine yc (by kernel_rfl) (fun K6 n6 s6 o6 q6 p6=>?_);refine y14 (by kernel_rfl) (fun I16 K16 b16 n16 e16 q16 p16=>?_)
 have L16:∀(m:Nat) (t3_17:AV) (h_18:AHeap),z37 call t0 k7 m t3_17 h_18=some (rR,hR)→Go w0 m0 (Func.ntmps Tryd.f87) I16 [(0,t0),(2,z6 h),(3,t3_17)] [] h_18:=by
  intro m
  induction m with
  |zero=>intro t3_17 h_18 z;cases z
  |succ m ih16=>
   intro t3_17 h_18 z;rw[z41] at z;unfold z2b at z;refine b16 ?_;refine W.s (fun _ n19 e19 _ _=>?_);refine W.s (fun K20 n20 _ _ _=>?_);refine W.r ?_;refine oA 4 t0 ?_;refine oCb hc 5 z fun t5 h_21 z=>?_;refine oB 6 z fun t6 z=>?_;refine oA 7 (.bool t6) ?_;obtain⟨j11,e26,z⟩:=lS z
   have J27:∀(t11:Bool) (h_25:AHeap),j11 t11 h_25=some (rR,hR)→WL Pg w0 m0 (Func.ntmps Tryd.f87) (Code.ops (y4 (y4 (y4 (y4 (y4 (y3 (y3 (z55 Tryd.f87))))))))) 8 K20 [(0,t0),(2,z6 h),(3,t3_17),(11,.bool t11)] [] h_25:=by
    intro t11 h_25 z;rw[e26] at z;refine oA 12 (.bool t11) ?_;obtain⟨j16,e29,z⟩:=lS z
    have J30:∀(t16:Bool) (h_28:AHeap),j16 t16 h_28=some (rR,hR)→WL Pg w0 m0 (Func.ntmps Tryd.f87) (Code.ops (y4 (y4 (y4 (y4 (y4 (y3 (y3 (z55 Tryd.f87))))))))) 13 K20 [(0,t0),(2,z6 h),(3,t3_17),(16,.bool t16)] [] h_28:=by
     intro t16 h_28 z;rw[e29] at z;refine oV [(0,t0),(2,z6 h),(3,t3_17),(16,.bool t16)] (n20 ?_)
     cases t16 with
     |true=>
      refine oT z fun z=>?_;refine oZ (n19 ?_);refine yc (by kernel_rfl) (fun K31 n31 s31 o31 q31 p31=>?_);refine W.r ?_;refine oA 17 t3_17 ?_;refine oA 18 t0 ?_;refine oCK hc (some 19) z (fun q=>p31 (p16 (p6 (p5 (Pf q))))) fun r19 h_32 z=>?_
      replace z:=oS z;obtain⟨t19,c34,z⟩:=z
      have c34:=z4e c34;subst c34;refine oK 20 z fun v20 h_35 z=>?_;refine oK 21 z fun v21 h_37 z=>?_;refine oA 3 v21 ?_;refine oV [(0,t0),(2,z6 h),(3,v21)] (n31 (n16 ?_));exact gW _ (ih16 _ _ z)
     |false=>
      refine oU z fun z=>?_;refine W.exit (by kernel_rfl) ?_;refine e19 (e16 ?_);refine s6 (by kernel_rfl) ?_;exact gW _ (J7 _ _ z)
    cases t11 with
    |true=>
     replace z:=zc3 z
     refine oA 13 t0 ?_;refine oCb hc 14 z fun t14 h_40 z=>?_;refine oB 15 z fun t15 z=>?_;refine oA 16 (.bool t15) ?_;exact lW _ (J30 _ _ z)
    |false=>
     replace z:=zc4 z
     refine WL.o (some 13) ?_;refine WL.o (some 14) ?_;refine WL.o (some 15) ?_;refine oA 16 (.bool false) ?_;exact lW _ (J30 _ _ z)
   cases t6 with
   |true=>
    replace z:=zc3 z
    refine oA 8 t0 ?_;refine oCb hc 9 z fun t9 h_44 z=>?_;refine oB 10 z fun t10 z=>?_;refine oA 11 (.bool t10) ?_;exact lW _ (J27 _ _ z)
   |false=>
    replace z:=zc4 z
    refine WL.o (some 8) ?_;refine WL.o (some 9) ?_;refine WL.o (some 10) ?_;refine oA 11 (.bool false) ?_;exact lW _ (J27 _ _ z)
 exact gW _ (L16 _ _ _ z)
noncomputable def z1a(call:zc)(_:Nat)(t0:AV)(h:AHeap):R:=lett (newH h 68 [.int .i64 0,.int .u64 0,.int .u64 0,.int .u64 0,.int .u64 0,.nsl]) fun h_2=>callK (call 95 [t0] h_2) fun r5 h_5=>obind (z65 r5) fun t5=>lett (newH h_5 68 [.int .i64 0,.int .u64 0,.int .u64 0,.int .u64 0,.int .u64 0,.nsl]) fun h_8=>obind (z15 h_8 6 t5 (z6 h_5)) fun h_10=>callN (call 88 [t0,.int .u8 42] h_10) fun r8 h_15=>obind (z23 r8) fun t8=>ifB t8 (obind (z16 h_15 6 (z6 h_5)) fun t9=>outK (z16e Pg h_15 66 1 [(0,.agg t9)]) fun v10 h_20=>callN (call 84 [.int .i64 5,v10] h_20) fun r11 h_22=>obind (z65 r11) fun t11=>obind (z15 h_22 6 t11 (z6 h)) fun h_25=>obind (z16 h_25 6 (z6 h)) fun w2=>some (.ret (.agg w2),h_25)) (callN (call 88 [t0,.int .u8 43] h_15) fun r14 h_29=>obind (z23 r14) fun t14=>ifB t14 (obind (z16 h_29 6 (z6 h_5)) fun t15=>outK (z16e Pg h_29 66 1 [(0,.agg t15)]) fun v16 h_34=>callN (call 84 [.int .i64 6,v16] h_34) fun r17 h_36=>obind (z65 r17) fun t17=>obind (z15 h_36 6 t17 (z6 h)) fun h_39=>obind (z16 h_39 6 (z6 h)) fun w2_42=>some (.ret (.agg w2_42),h_39)) (callN (call 88 [t0,.int .u8 63] h_29) fun r20 h_44=>obind (z23 r20) fun t20=>ifB t20 (obind (z16 h_44 6 (z6 h_5)) fun t21=>outK (z16e Pg h_44 66 1 [(0,.agg t21)]) fun v22 h_49=>callN (call 84 [.int .i64 7,v22] h_49) fun r23 h_51=>obind (z65 r23) fun t23=>obind (z15 h_51 6 t23 (z6 h)) fun h_54=>obind (z16 h_54 6 (z6 h)) fun w2_57=>some (.ret (.agg w2_57),h_54)) (obind (z16 h_44 6 (z6 h_5)) fun t24=>obind (z15 h_44 6 t24 (z6 h)) fun h_60=>obind (z16 h_60 6 (z6 h)) fun w2_63=>some (.ret (.agg w2_63),h_60))))
theorem z131{call:zc}(hc:SaysAll Pg call){n:Nat}{t0:AV}{h:AHeap}{rR:ARes}{hR:AHeap}(z:z1a call n t0 h=some (rR,hR)):Says Pg 93 [t0] h rR hR:=by
 unfold z1a at z;refine sO Tryd.func93 fun w0 m0=>?_;refine wW [(0,t0)] ?_;refine oG fun n1=>W.r ?_;refine oN 2 z fun h_2 z=>?_;refine oV [(0,t0),(2,z6 h)] (n1 ?_);refine oJ fun n4 p4=>W.r ?_;refine oA 4 t0 ?_;refine oCK hc (some 5) z (fun q=>p4 (Pf q)) fun r5 h_5 z=>?_
 replace z:=oS z;obtain⟨t5,c7,z⟩:=z
 have c7:=z4e c7;subst c7;refine oN 3 z fun h_8 z=>?_;refine oW 68 (.agg t5) z fun h_10 z=>?_;refine oV [(0,t0),(2,z6 h),(3,z6 h_5)] (n4 ?_);refine oH fun n12 q12=>?_;refine yc (by kernel_rfl) (fun K13 n13 s13 o13 q13 p13=>?_);refine oG fun n14=>W.r ?_;refine oA 7 t0 ?_;refine oCb hc 8 z fun t8 h_15 z=>?_;refine oA 6 (.bool t8) ?_;refine oV [(0,t0),(2,z6 h),(3,z6 h_5),(6,.bool t8)] (n14 ?_)
 cases t8 with
 |true=>
  refine oT z fun z=>?_;refine oG fun n18=>W.r ?_;refine oR 9 68 z fun t9 z=>?_;refine oK 10 z fun v10 h_20 z=>?_;refine oCa hc 11 z fun t11 h_22 z=>?_;refine oW 68 (.agg t11) z fun h_25 z=>?_;refine oV [(2,z6 h)] (n18 (oY (q13 (q12 ?_))));obtain⟨w2,e27,z⟩:=oS z;exact lZ z [.cell 2 68] [.agg w2] (rY e27 zd)
 |false=>
  refine oU z fun z=>?_;refine oG fun n28=>W.r ?_;refine oA 13 t0 ?_;refine oCb hc 14 z fun t14 h_29 z=>?_;refine oA 12 (.bool t14) ?_;refine oV [(0,t0),(2,z6 h),(3,z6 h_5),(12,.bool t14)] (n28 ?_)
  cases t14 with
  |true=>
   refine oT z fun z=>?_;refine oG fun n32=>W.r ?_;refine oR 15 68 z fun t15 z=>?_;refine oK 16 z fun v16 h_34 z=>?_;refine oCa hc 17 z fun t17 h_36 z=>?_;refine oW 68 (.agg t17) z fun h_39 z=>?_;refine oV [(2,z6 h)] (n32 (oY (q13 (q12 ?_))));obtain⟨w2_42,e41,z⟩:=oS z;exact lZ z [.cell 2 68] [.agg w2_42] (rY e41 zd)
  |false=>
   refine oU z fun z=>?_;refine oG fun n43=>W.r ?_;refine oA 19 t0 ?_;refine oCb hc 20 z fun t20 h_44 z=>?_;refine oA 18 (.bool t20) ?_;refine oV [(2,z6 h),(3,z6 h_5),(18,.bool t20)] (n43 ?_)
   cases t20 with
   |true=>
    refine oT z fun z=>?_;refine oG fun n47=>W.r ?_;refine oR 21 68 z fun t21 z=>?_;refine oK 22 z fun v22 h_49 z=>?_;refine oCa hc 23 z fun t23 h_51 z=>?_;refine oW 68 (.agg t23) z fun h_54 z=>?_;refine oV [(2,z6 h)] (n47 (oY (q13 (q12 ?_))));obtain⟨w2_57,e56,z⟩:=oS z;exact lZ z [.cell 2 68] [.agg w2_57] (rY e56 zd)
   |false=>
    refine oU z fun z=>?_;refine oZ (n13 (n12 ?_));refine oG fun n58=>W.r ?_;refine oR 24 68 z fun t24 z=>?_;refine oW 68 (.agg t24) z fun h_60 z=>?_;refine oV [(2,z6 h)] (n58 (oY ?_));obtain⟨w2_63,e62,z⟩:=oS z;exact lZ z [.cell 2 68] [.agg w2_63] (rY e62 zd)
noncomputable def z18(call:zc)(_:Nat)(t0:AV)(h:AHeap):R:=lett (newH h 68 [.int .i64 0,.int .u64 0,.int .u64 0,.int .u64 0,.int .u64 0,.nsl]) fun h_2=>callK (call 83 [t0] h_2) fun r6 h_5=>obind (avInt .u8 r6) fun t6=>lett ((t6:Int) == 40) fun (t9:Bool)=>ifB t9 (callK (call 76 [t0] h_5) fun r11 h_14=>obind (z65 r11) fun t11=>lett (newH h_14 68 [.int .i64 0,.int .u64 0,.int .u64 0,.int .u64 0,.int .u64 0,.nsl]) fun h_17=>obind (z15 h_17 6 t11 (z6 h_14)) fun h_19=>callK (call 96 [t0,.int .u8 41] h_19) fun _ h_22=>obind (z16 h_22 6 (z6 h_14)) fun t14=>obind (z15 h_22 6 t14 (z6 h)) fun h_26=>obind (z16 h_26 6 (z6 h)) fun w2=>some (.ret (.agg w2),h_26)) (lett ((t6:Int) == 46) fun (t16:Bool)=>ifB t16 (callN (call 85 [] h_5) fun r17 h_34=>obind (z65 r17) fun t17=>obind (z15 h_34 6 t17 (z6 h)) fun h_37=>obind (z16 h_37 6 (z6 h)) fun w2_40=>some (.ret (.agg w2_40),h_37)) (lett ((t6:Int) == 91) fun (t19:Bool)=>ifB t19 (callK (call 97 [t0] h_5) fun r21 h_44=>obind (z65 r21) fun t21=>obind (z2d3 Pg 68 [(0,.int .i64 2),(1,.agg t21)]) fun t22=>obind (z15 h_44 6 t22 (z6 h)) fun h_48=>obind (z16 h_48 6 (z6 h)) fun w2_51=>some (.ret (.agg w2_51),h_48)) (lett ((t6:Int) == 92) fun (t24:Bool)=>ifB t24 (callK (call 83 [t0] h_5) fun r26 h_56=>obind (avInt .u8 r26) fun t26=>callN (call 86 [.int .u8 t26] h_56) fun r27 h_59=>obind (z65 r27) fun t27=>obind (z15 h_59 6 t27 (z6 h)) fun h_62=>obind (z16 h_62 6 (z6 h)) fun w2_65=>some (.ret (.agg w2_65),h_62)) (lett ((t6:Int) == 124) fun (t29:Bool)=>lett (fun (t28:Bool) (h_71:AHeap)=>lett (fun (h_73:AHeap)=>callN (call 86 [.int .u8 t6] h_73) fun r38 h_75=>obind (z65 r38) fun t38=>obind (z15 h_75 6 t38 (z6 h)) fun h_78=>obind (z16 h_78 6 (z6 h)) fun w2_81=>some (.ret (.agg w2_81),h_78)) fun k72=>ifB t28 (callK (call 98 [t0] h_71) fun _ h_82=>k72 h_82) (k72 h_71)) fun k70=>ifB t29 (k70 true h_5) (lett ((t6:Int) == 41) fun (t30:Bool)=>lett (fun (t28_88:Bool) (h_89:AHeap)=>k70 t28_88 h_89) fun k87=>ifB t30 (k87 true h_5) (lett ((t6:Int) == 42) fun (t31:Bool)=>lett (fun (t28_93:Bool) (h_94:AHeap)=>k87 t28_93 h_94) fun k92=>ifB t31 (k92 true h_5) (lett ((t6:Int) == 43) fun (t32:Bool)=>lett (fun (t28_98:Bool) (h_99:AHeap)=>k92 t28_98 h_99) fun k97=>ifB t32 (k97 true h_5) (lett ((t6:Int) == 63) fun (t33:Bool)=>lett (fun (t28_103:Bool) (h_104:AHeap)=>k97 t28_103 h_104) fun k102=>ifB t33 (k102 true h_5) (lett ((t6:Int) == 93) fun (t34:Bool)=>k102 t34 h_5)))))))))
theorem z1a4{call:zc}(hc:SaysAll Pg call){n:Nat}{t0:AV}{h:AHeap}{rR:ARes}{hR:AHeap}(z:z18 call n t0 h=some (rR,hR)):Says Pg 95 [t0] h rR hR:=by
 unfold z18 at z;refine sO Tryd.func95 fun w0 m0=>?_;refine wW [(0,t0)] ?_;refine oG fun n1=>W.r ?_;refine oN 2 z fun h_2 z=>?_;refine oV [(0,t0),(2,z6 h)] (n1 ?_);refine oJ fun n4 p4=>W.r ?_;refine oA 5 t0 ?_;refine oCK hc (some 6) z (fun q=>p4 (Pf q)) fun r6 h_5 z=>?_
 replace z:=oS z;obtain⟨t6,c7,z⟩:=z
 have c7:=z17 c7;subst c7;refine oA 3 (.int .u8 t6) ?_;refine oV [(0,t0),(2,z6 h),(3,.int .u8 t6)] (n4 ?_);refine W.s (fun _ n8 _ q8 p8=>?_);refine oG fun n9=>W.r ?_;refine oA 7 (.int .u8 t6) ?_;refine oV [(0,t0),(2,z6 h),(3,.int .u8 t6),(7,.int .u8 t6)] (n9 ?_);refine yc (by kernel_rfl) (fun K10 n10 s10 o10 q10 p10=>?_);refine oG fun n11=>W.r ?_;refine oB 9 z fun t9 z=>?_;refine oA 8 (.bool t9) ?_;refine oV [(0,t0),(2,z6 h),(3,.int .u8 t6),(7,.int .u8 t6),(8,.bool t9)] (n11 ?_)
 cases t9 with
 |true=>
  refine oT z fun z=>?_;refine oJ fun n13 p13=>W.r ?_;refine oA 10 t0 ?_;refine oCK hc (some 11) z (fun q=>p13 (p10 (p8 (Pf q)))) fun r11 h_14 z=>?_
  replace z:=oS z;obtain⟨t11,c16,z⟩:=z
  have c16:=z4e c16;subst c16;refine oN 4 z fun h_17 z=>?_;refine oW 68 (.agg t11) z fun h_19 z=>?_;refine oV [(0,t0),(2,z6 h),(4,z6 h_14)] (n13 ?_);refine oJ fun n21 p21=>W.r ?_;refine oA 12 t0 ?_;refine oCK hc (some 13) z (fun q=>p21 (p10 (p8 (Pf q)))) fun r13 h_22 z=>?_;refine oV [(2,z6 h),(4,z6 h_14)] (n21 ?_);refine oG fun n24=>W.r ?_;refine oR 14 68 z fun t14 z=>?_;refine oW 68 (.agg t14) z fun h_26 z=>?_;refine oV [(2,z6 h)] (n24 (oY (q10 (q8 ?_))));obtain⟨w2,e28,z⟩:=oS z;exact lZ z [.cell 2 68] [.agg w2] (rY e28 zd)
 |false=>
  refine oU z fun z=>?_;refine oG fun n31=>W.r ?_;refine oB 16 z fun t16 z=>?_;refine oA 15 (.bool t16) ?_;refine oV [(0,t0),(2,z6 h),(3,.int .u8 t6),(7,.int .u8 t6),(15,.bool t16)] (n31 ?_)
  cases t16 with
  |true=>
   refine oT z fun z=>?_;refine oG fun n33=>W.r ?_;refine oCa hc 17 z fun t17 h_34 z=>?_;refine oW 68 (.agg t17) z fun h_37 z=>?_;refine oV [(2,z6 h)] (n33 (oY (q10 (q8 ?_))));obtain⟨w2_40,e39,z⟩:=oS z;exact lZ z [.cell 2 68] [.agg w2_40] (rY e39 zd)
  |false=>
   refine oU z fun z=>?_;refine oG fun n41=>W.r ?_;refine oB 19 z fun t19 z=>?_;refine oA 18 (.bool t19) ?_;refine oV [(0,t0),(2,z6 h),(3,.int .u8 t6),(7,.int .u8 t6),(18,.bool t19)] (n41 ?_)
   cases t19 with
   |true=>
    refine oT z fun z=>?_;refine oJ fun n43 p43=>W.r ?_;refine oA 20 t0 ?_;refine oCK hc (some 21) z (fun q=>p43 (p10 (p8 (Pf q)))) fun r21 h_44 z=>?_
    replace z:=oS z;obtain⟨t21,c46,z⟩:=z
    have c46:=z4e c46;subst c46;obtain⟨t22,e47,z⟩:=oS z;refine WL.val (d:=(some 22)) (v:=.agg t22) (h':=h_44) (by kernel_rfl) (by kernel_rfl) (z1e9 (by kernel_rfl) e47) ?_;refine oW 68 (.agg t22) z fun h_48 z=>?_;refine oV [(2,z6 h)] (n43 (oY (q10 (q8 ?_))));obtain⟨w2_51,e50,z⟩:=oS z;exact lZ z [.cell 2 68] [.agg w2_51] (rY e50 zd)
   |false=>
    refine oU z fun z=>?_;refine oG fun n53=>W.r ?_;refine oB 24 z fun t24 z=>?_;refine oA 23 (.bool t24) ?_;refine oV [(0,t0),(2,z6 h),(3,.int .u8 t6),(7,.int .u8 t6),(23,.bool t24)] (n53 ?_)
    cases t24 with
    |true=>
     refine oT z fun z=>?_;refine oJ fun n55 p55=>W.r ?_;refine oA 25 t0 ?_;refine oCK hc (some 26) z (fun q=>p55 (p10 (p8 (Pf q)))) fun r26 h_56 z=>?_
     replace z:=oS z;obtain⟨t26,c58,z⟩:=z
     have c58:=z17 c58;subst c58;refine oCa hc 27 z fun t27 h_59 z=>?_;refine oW 68 (.agg t27) z fun h_62 z=>?_;refine oV [(2,z6 h)] (n55 (oY (q10 (q8 ?_))));obtain⟨w2_65,e64,z⟩:=oS z;exact lZ z [.cell 2 68] [.agg w2_65] (rY e64 zd)
    |false=>
     refine oU z fun z=>?_;refine W.s (fun K67 n67 _ _ _=>?_);refine oG fun n68=>W.r ?_;refine oB 29 z fun t29 z=>?_;refine oA 28 (.bool t29) ?_;refine oV [(0,t0),(2,z6 h),(3,.int .u8 t6),(7,.int .u8 t6),(28,.bool t29)] (n68 ?_);obtain⟨k70,e70,z⟩:=lS z
     have J70:∀(t28:Bool) (h_71:AHeap),k70 t28 h_71=some (rR,hR)→Go w0 m0 (Func.ntmps Tryd.f95) (K67 .normal) [(0,t0),(2,z6 h),(3,.int .u8 t6),(28,.bool t28)] [] h_71:=by
      intro t28 h_71 z;rw[e70] at z;refine n67 ?_;obtain⟨k72,e72,z⟩:=lS z
      have J72:∀(h_73:AHeap),k72 h_73=some (rR,hR)→Go w0 m0 (Func.ntmps Tryd.f95) (K10 .normal) [(2,z6 h),(3,.int .u8 t6)] [] h_73:=by
       intro h_73 z;rw[e72] at z;refine n10 (n8 ?_);refine oG fun n74=>W.r ?_;refine oA 37 (.int .u8 t6) ?_;refine oCa hc 38 z fun t38 h_75 z=>?_;refine oW 68 (.agg t38) z fun h_78 z=>?_;refine oV [(2,z6 h)] (n74 (oY ?_));obtain⟨w2_81,e80,z⟩:=oS z;exact lZ z [.cell 2 68] [.agg w2_81] (rY e80 zd)
      cases t28 with
      |true=>
       refine oT z fun z=>?_;refine W.r ?_;refine oA 35 t0 ?_;refine oCK hc (some 36) z (fun q=>p10 (p8 (Pf q))) fun r36 h_82 z=>?_;refine oV [(2,z6 h),(3,.int .u8 t6)] ?_;exact gW _ (J72 _ z)
      |false=>
       refine oU z fun z=>?_;refine oZ ?_;exact gW _ (J72 _ z)
     cases t29 with
     |true=>
      refine oT z fun z=>?_;refine oZ ?_;exact gW _ (J70 _ _ z)
     |false=>
      refine oU z fun z=>?_;refine oG fun n85=>W.r ?_;refine oB 30 z fun t30 z=>?_;refine oA 28 (.bool t30) ?_;refine oV [(0,t0),(2,z6 h),(3,.int .u8 t6),(7,.int .u8 t6),(28,.bool t30)] (n85 ?_);obtain⟨k87,e87,z⟩:=lS z
      have J87:∀(t28_88:Bool) (h_89:AHeap),k87 t28_88 h_89=some (rR,hR)→Go w0 m0 (Func.ntmps Tryd.f95) (K67 .normal) [(0,t0),(2,z6 h),(3,.int .u8 t6),(28,.bool t28_88)] [] h_89:=by
       intro t28_88 h_89 z;rw[e87] at z;exact gW _ (J70 _ _ z)
      cases t30 with
      |true=>
       refine oT z fun z=>?_;refine oZ ?_;exact gW _ (J87 _ _ z)
      |false=>
       refine oU z fun z=>?_;refine oG fun n90=>W.r ?_;refine oB 31 z fun t31 z=>?_;refine oA 28 (.bool t31) ?_;refine oV [(0,t0),(2,z6 h),(3,.int .u8 t6),(7,.int .u8 t6),(28,.bool t31)] (n90 ?_);obtain⟨k92,e92,z⟩:=lS z
       have J92:∀(t28_93:Bool) (h_94:AHeap),k92 t28_93 h_94=some (rR,hR)→Go w0 m0 (Func.ntmps Tryd.f95) (K67 .normal) [(0,t0),(2,z6 h),(3,.int .u8 t6),(28,.bool t28_93)] [] h_94:=by
        intro t28_93 h_94 z;rw[e92] at z;exact gW _ (J87 _ _ z)
       cases t31 with
       |true=>
        refine oT z fun z=>?_;refine oZ ?_;exact gW _ (J92 _ _ z)
       |false=>
        refine oU z fun z=>?_;refine oG fun n95=>W.r ?_;refine oB 32 z fun t32 z=>?_;refine oA 28 (.bool t32) ?_;refine oV [(0,t0),(2,z6 h),(3,.int .u8 t6),(7,.int .u8 t6),(28,.bool t32)] (n95 ?_);obtain⟨k97,e97,z⟩:=lS z
        have J97:∀(t28_98:Bool) (h_99:AHeap),k97 t28_98 h_99=some (rR,hR)→Go w0 m0 (Func.ntmps Tryd.f95) (K67 .normal) [(0,t0),(2,z6 h),(3,.int .u8 t6),(28,.bool t28_98)] [] h_99:=by
         intro t28_98 h_99 z;rw[e97] at z;exact gW _ (J92 _ _ z)
        cases t32 with
        |true=>
         refine oT z fun z=>?_;refine oZ ?_;exact gW _ (J97 _ _ z)
        |false=>
         refine oU z fun z=>?_;refine oG fun n100=>W.r ?_;refine oB 33 z fun t33 z=>?_;refine oA 28 (.bool t33) ?_;refine oV [(0,t0),(2,z6 h),(3,.int .u8 t6),(7,.int .u8 t6),(28,.bool t33)] (n100 ?_);obtain⟨k102,e102,z⟩:=lS z
         have J102:∀(t28_103:Bool) (h_104:AHeap),k102 t28_103 h_104=some (rR,hR)→Go w0 m0 (Func.ntmps Tryd.f95) (K67 .normal) [(0,t0),(2,z6 h),(3,.int .u8 t6),(28,.bool t28_103)] [] h_104:=by
          intro t28_103 h_104 z;rw[e102] at z;exact gW _ (J97 _ _ z)
         cases t33 with
         |true=>
          refine oT z fun z=>?_;refine oZ ?_;exact gW _ (J102 _ _ z)
         |false=>
          refine oU z fun z=>?_;refine W.r ?_;refine oB 34 z fun t34 z=>?_;refine oA 28 (.bool t34) ?_;refine oV [(0,t0),(2,z6 h),(3,.int .u8 t6),(28,.bool t34)] ?_;exact gW _ (J102 _ _ z)
noncomputable def z2f(call:zc)(t0:AV)(h_5:AHeap)(k16:AHeap→R)(self:AHeap→R)(h_48:AHeap):R:=callN (call 88 [t0,.int .u8 93] h_48) fun r11 h_51=>obind (z23 r11) fun t11=>lett (!t11) fun (t12:Bool)=>ifB t12 (callK (call 99 [t0,(z6 h_5)] h_51) fun _ h_56=>self h_56) (k16 h_51)
noncomputable def z44(call:zc)(t0:AV)(h_5:AHeap)(k16:AHeap→R):Nat→AHeap→R:=ze6 (fun _=>none) (z2f call t0 h_5 k16)
theorem z51(call:zc)(t0:AV)(h_5:AHeap)(k16:AHeap→R)(m:Nat):z44 call t0 h_5 k16 (m+1)=z2f call t0 h_5 k16 (z44 call t0 h_5 k16 m):=rfl
noncomputable def z40(h_5:AHeap)(k29:AHeap→R)(self:Int→AHeap→R)(t16:Int)(h_32:AHeap):R:=lett (decide (t16<4)) fun (t17:Bool)=>ifB t17 (obind (z313 4 1 (z6 h_5) t16) fun t20=>obind (z7 h_32 t20) fun v21=>obind (avInt .u64 v21) fun t21=>lett (xorI .u64 t21 18446744073709551615) fun (t22:Int)=>obind (z313 4 1 (z6 h_5) t16) fun t23=>obind (z15 h_32 1 [.int .u64 t22] t23) fun h_44=>lett (IntKind.i64.wrap (t16+1)) fun (t24:Int)=>self t24 h_44) (k29 h_32)
noncomputable def z45(h_5:AHeap)(k29:AHeap→R):Nat→Int→AHeap→R:=ze6 (fun _ _=>none) (z40 h_5 k29)
theorem z85(h_5:AHeap)(k29:AHeap→R)(m:Nat):z45 h_5 k29 (m+1)=z40 h_5 k29 (z45 h_5 k29 m):=rfl
noncomputable def z35(call:zc)(n:Nat)(t0:AV)(h:AHeap):R:=lett (newH h 65 [.int .u64 0,.int .u64 0,.int .u64 0,.int .u64 0]) fun h_2=>callN (call 88 [t0,.int .u8 94] h_2) fun r7 h_5=>obind (z23 r7) fun t7=>lett (newH h_5 65 [.int .u64 0,.int .u64 0,.int .u64 0,.int .u64 0]) fun h_9=>callK (call 99 [t0,(z6 h_5)] h_9) fun _ h_12=>lett (fun (h_17:AHeap)=>lett (fun (h_21:AHeap)=>obind (z16 h_21 4 (z6 h_5)) fun t25=>obind (z15 h_21 4 t25 (z6 h)) fun h_24=>obind (z16 h_24 4 (z6 h)) fun w2=>some (.ret (.agg w2),h_24)) fun k20=>ifB t7 (lett (fun (h_30:AHeap)=>k20 h_30) fun k29=>z45 h_5 k29 n 0 h_17) (k20 h_17)) fun k16=>z44 call t0 h_5 k16 n h_12
theorem z166{call:zc}(hc:SaysAll Pg call){n:Nat}{t0:AV}{h:AHeap}{rR:ARes}{hR:AHeap}(z:z35 call n t0 h=some (rR,hR)):Says Pg 97 [t0] h rR hR:=by
 unfold z35 at z;refine sO Tryd.func97 fun w0 m0=>?_;refine wW [(0,t0)] ?_;refine oG fun n1=>W.r ?_;refine oN 2 z fun h_2 z=>?_;refine oV [(0,t0),(2,z6 h)] (n1 ?_);refine oG fun n4=>W.r ?_;refine oA 6 t0 ?_;refine oCb hc 7 z fun t7 h_5 z=>?_;refine oA 3 (.bool t7) ?_;refine oV [(0,t0),(2,z6 h),(3,.bool t7)] (n4 ?_);refine oG fun n8=>W.r ?_;refine oN 4 z fun h_9 z=>?_;refine oV [(0,t0),(2,z6 h),(3,.bool t7),(4,z6 h_5)] (n8 ?_);refine oJ fun n11 p11=>W.r ?_;refine oA 8 t0 ?_;refine oCK hc (some 9) z (fun q=>p11 (Pf q)) fun r9 h_12 z=>?_;refine oV [(0,t0),(2,z6 h),(3,.bool t7),(4,z6 h_5)] (n11 ?_);refine W.s (fun K14 n14 _ _ p14=>?_);obtain⟨k16,e16,z⟩:=lS z
 have J16:∀(h_17:AHeap),k16 h_17=some (rR,hR)→Go w0 m0 (Func.ntmps Tryd.f97) (K14 .normal) [(2,z6 h),(3,.bool t7),(4,z6 h_5)] [] h_17:=by
  intro h_17 z;rw[e16] at z;refine n14 ?_;refine W.s (fun K18 n18 _ _ _=>?_);refine oG fun n19=>W.r ?_;refine oA 15 (.bool t7) ?_;refine oV [(2,z6 h),(4,z6 h_5),(15,.bool t7)] (n19 ?_);obtain⟨k20,e20,z⟩:=lS z
  have J20:∀(h_21:AHeap),k20 h_21=some (rR,hR)→Go w0 m0 (Func.ntmps Tryd.f97) (K18 .normal) [(2,z6 h),(4,z6 h_5)] [] h_21:=by
   intro h_21 z;rw[e20] at z;refine n18 ?_;refine oG fun n22=>W.r ?_;refine oR 25 65 z fun t25 z=>?_;refine oW 65 (.agg t25) z fun h_24 z=>?_;refine oV [(2,z6 h)] (n22 (oY ?_));obtain⟨w2,e26,z⟩:=oS z;exact lZ z [.cell 2 65] [.agg w2] (rY e26 zd)
  cases t7 with
  |true=>
   refine oT z fun z=>?_;refine oG fun n27=>W.r ?_;refine oA 16 (.int .i64 0) ?_;refine oV [(2,z6 h),(4,z6 h_5),(16,.int .i64 0)] (n27 ?_);obtain⟨k29,e29,z⟩:=lS z
   have J29:∀(h_30:AHeap),k29 h_30=some (rR,hR)→Go w0 m0 (Func.ntmps Tryd.f97) (K18 .normal) [(2,z6 h),(4,z6 h_5)] [] h_30:=by
    intro h_30 z;rw[e29] at z;exact gW _ (J20 _ z)
   refine yc (by kernel_rfl) (fun K28 n28 s28 o28 q28 p28=>?_);refine y14 (by kernel_rfl) (fun I31 K31 b31 n31 e31 q31 p31=>?_)
   have L31:∀(m:Nat) (t16:Int) (h_32:AHeap),z45 h_5 k29 m t16 h_32=some (rR,hR)→Go w0 m0 (Func.ntmps Tryd.f97) I31 [(2,z6 h),(4,z6 h_5),(16,.int .i64 t16)] [] h_32:=by
    intro m
    induction m with
    |zero=>intro t16 h_32 z;cases z
    |succ m ih31=>
     intro t16 h_32 z;rw[z85] at z;unfold z40 at z;refine b31 ?_;refine oG fun n33=>W.r ?_;refine oB 17 z fun t17 z=>?_;refine oV [(2,z6 h),(4,z6 h_5),(16,.int .i64 t16),(17,.bool t17)] (n33 ?_);refine W.s (fun _ n35 e35 _ _=>?_)
     cases t17 with
     |true=>
      refine oT z fun z=>?_;refine oZ (n35 ?_);refine oG fun n36=>?_;refine yc (by kernel_rfl) (fun K37 n37 s37 o37 q37 p37=>?_);refine oG fun n38=>W.r ?_;refine oA 18 (.int .i64 t16) ?_;refine oA 5 (.int .i64 t16) ?_;refine oV [(2,z6 h),(4,z6 h_5),(5,.int .i64 t16),(16,.int .i64 t16)] (n38 (W.r ?_));refine oA 19 (.int .i64 t16) ?_;refine oQ 20 65 63 .i64 z fun t20 z=>?_;refine oLi 21 63 z fun t21 z=>?_;refine oI 22 .u64 z fun t22 z=>?_;refine oQ 23 65 63 .i64 z fun t23 z=>?_;refine oW 63 (.int .u64 t22) z fun h_44 z=>?_;refine oV [(2,z6 h),(4,z6 h_5),(16,.int .i64 t16)] (n37 (n36 (W.r ?_)));refine oI 24 .i64 z fun t24 z=>?_;refine oA 16 (.int .i64 t24) ?_;refine oV [(2,z6 h),(4,z6 h_5),(16,.int .i64 t24)] (n31 ?_);exact gW _ (ih31 _ _ z)
     |false=>
      refine oU z fun z=>?_;refine W.exit (by kernel_rfl) ?_;refine e35 (e31 ?_);refine s28 (by kernel_rfl) ?_;exact gW _ (J29 _ z)
   exact gW _ (L31 _ _ _ z)
  |false=>
   refine oU z fun z=>?_;refine oZ ?_;exact gW _ (J20 _ z)
 refine yc (by kernel_rfl) (fun K15 n15 s15 o15 q15 p15=>?_);refine y14 (by kernel_rfl) (fun I47 K47 b47 n47 e47 q47 p47=>?_)
 have L47:∀(m:Nat) (h_48:AHeap),z44 call t0 h_5 k16 m h_48=some (rR,hR)→Go w0 m0 (Func.ntmps Tryd.f97) I47 [(0,t0),(2,z6 h),(3,.bool t7),(4,z6 h_5)] [] h_48:=by
  intro m
  induction m with
  |zero=>intro h_48 z;cases z
  |succ m ih47=>
   intro h_48 z;rw[z51] at z;unfold z2f at z;refine b47 ?_;refine W.s (fun _ n49 e49 _ _=>?_);refine oG fun n50=>W.r ?_;refine oA 10 t0 ?_;refine oCb hc 11 z fun t11 h_51 z=>?_;refine oB 12 z fun t12 z=>?_;refine oV [(0,t0),(2,z6 h),(3,.bool t7),(4,z6 h_5),(12,.bool t12)] (n50 ?_)
   cases t12 with
   |true=>
    refine oT z fun z=>?_;refine oZ (n49 ?_);refine yc (by kernel_rfl) (fun K55 n55 s55 o55 q55 p55=>?_);refine W.r ?_;refine oA 13 t0 ?_;refine oCK hc (some 14) z (fun q=>p55 (p47 (p15 (p14 (Pf q))))) fun r14 h_56 z=>?_;refine oV [(0,t0),(2,z6 h),(3,.bool t7),(4,z6 h_5)] (n55 (n47 ?_));exact gW _ (ih47 _ z)
   |false=>
    refine oU z fun z=>?_;refine W.exit (by kernel_rfl) ?_;refine e49 (e47 ?_);refine s15 (by kernel_rfl) ?_;exact gW _ (J16 _ z)
 exact gW _ (L47 _ _ z)
noncomputable def z24(call:zc)(_:Nat)(t0:AV)(t1:AV)(h:AHeap):R:=callK (call 100 [t0] h) fun r7 h_2=>obind (avInt .u8 r7) fun t7=>callN (call 88 [t0,.int .u8 45] h_2) fun r10 h_8=>obind (z23 r10) fun t10=>lett (fun (t5:Int) (h_12:AHeap)=>callN (call 91 [t1,.int .u8 t7,.int .u8 t5] h_12) fun _ h_13=>some (.ret (.tup []),h_13)) fun k11=>ifB t10 (callK (call 100 [t0] h_8) fun r12 h_16=>obind (avInt .u8 r12) fun t12=>lett (decide (t12<t7)) fun (t15:Bool)=>lett (fun (h_22:AHeap)=>k11 t12 h_22) fun k21=>ifB t15 (callK (call 98 [t0] h_16) fun _ h_23=>k21 h_23) (k21 h_16)) (k11 t7 h_8)
theorem z173{call:zc}(hc:SaysAll Pg call){n:Nat}{t0:AV}{t1:AV}{h:AHeap}{rR:ARes}{hR:AHeap}(z:z24 call n t0 t1 h=some (rR,hR)):Says Pg 99 [t0,t1] h rR hR:=by
 unfold z24 at z;refine sO Tryd.func99 fun w0 m0=>?_;refine wW [(0,t0),(1,t1)] ?_;refine oJ fun n1 p1=>W.r ?_;refine oA 6 t0 ?_;refine oCK hc (some 7) z (fun q=>p1 (Pf q)) fun r7 h_2 z=>?_
 replace z:=oS z;obtain⟨t7,c4,z⟩:=z
 have c4:=z17 c4;subst c4;refine oA 4 (.int .u8 t7) ?_;refine oV [(0,t0),(1,t1),(4,.int .u8 t7)] (n1 ?_);refine oG fun n5=>W.r ?_;refine oA 8 (.int .u8 t7) ?_;refine oA 5 (.int .u8 t7) ?_;refine oV [(0,t0),(1,t1),(4,.int .u8 t7),(5,.int .u8 t7)] (n5 ?_);refine W.s (fun K6 n6 _ _ p6=>?_);refine oG fun n7=>W.r ?_;refine oA 9 t0 ?_;refine oCb hc 10 z fun t10 h_8 z=>?_;refine oV [(0,t0),(1,t1),(4,.int .u8 t7),(5,.int .u8 t7),(10,.bool t10)] (n7 ?_);obtain⟨k11,e11,z⟩:=lS z
 have J11:∀(t5:Int) (h_12:AHeap),k11 t5 h_12=some (rR,hR)→Go w0 m0 (Func.ntmps Tryd.f99) (K6 .normal) [(1,t1),(4,.int .u8 t7),(5,.int .u8 t5)] [] h_12:=by
  intro t5 h_12 z;rw[e11] at z;refine n6 (W.r ?_);refine oA 18 t1 ?_;refine oA 19 (.int .u8 t7) ?_;refine oA 20 (.int .u8 t5) ?_;refine oC hc (some 21) z fun r21 h_13 z=>?_;refine oV [] ?_;exact lY z [] [] zd
 cases t10 with
 |true=>
  refine oT z fun z=>?_;refine oJ fun n15 p15=>W.r ?_;refine oA 11 t0 ?_;refine oCK hc (some 12) z (fun q=>p15 (p6 (Pf q))) fun r12 h_16 z=>?_
  replace z:=oS z;obtain⟨t12,c18,z⟩:=z
  have c18:=z17 c18;subst c18;refine oA 5 (.int .u8 t12) ?_;refine oV [(0,t0),(1,t1),(4,.int .u8 t7),(5,.int .u8 t12)] (n15 ?_);refine oG fun n19=>W.r ?_;refine oA 13 (.int .u8 t12) ?_;refine oA 14 (.int .u8 t7) ?_;refine oB 15 z fun t15 z=>?_;refine oV [(0,t0),(1,t1),(4,.int .u8 t7),(5,.int .u8 t12),(15,.bool t15)] (n19 ?_);obtain⟨k21,e21,z⟩:=lS z
  have J21:∀(h_22:AHeap),k21 h_22=some (rR,hR)→Go w0 m0 (Func.ntmps Tryd.f99) (K6 .normal) [(1,t1),(4,.int .u8 t7),(5,.int .u8 t12)] [] h_22:=by
   intro h_22 z;rw[e21] at z;exact gW _ (J11 _ _ z)
  cases t15 with
  |true=>
   refine oT z fun z=>?_;refine W.r ?_;refine oA 16 t0 ?_;refine oCK hc (some 17) z (fun q=>p6 (Pf q)) fun r17 h_23 z=>?_;refine oV [(1,t1),(4,.int .u8 t7),(5,.int .u8 t12)] ?_;exact gW _ (J21 _ z)
  |false=>
   refine oU z fun z=>?_;refine oZ ?_;exact gW _ (J21 _ z)
 |false=>
  refine oU z fun z=>?_;refine oZ ?_;exact gW _ (J11 _ _ z)
noncomputable def z1c(call:zc)(_:Nat)(t0:AV)(h:AHeap):R:=callK (call 83 [t0] h) fun r5 h_3=>obind (avInt .u8 r5) fun t5=>lett ((t5:Int) == 92) fun (t8:Bool)=>ifB t8 (callK (call 83 [t0] h_3) fun r10 h_12=>obind (avInt .u8 r10) fun t10=>some (.ret (.int .u8 t10),h_12)) (lett ((t5:Int) == 91) fun (t12:Bool)=>lett (fun (t11:Bool) (h_20:AHeap)=>lett (fun (h_22:AHeap)=>some (.ret (.int .u8 t5),h_22)) fun k21=>ifB t11 (callK (call 98 [t0] h_20) fun _ h_24=>k21 h_24) (k21 h_20)) fun k19=>ifB t12 (k19 true h_3) (lett ((t5:Int) == 93) fun (t13:Bool)=>lett (fun (t11_30:Bool) (h_31:AHeap)=>k19 t11_30 h_31) fun k29=>ifB t13 (k29 true h_3) (lett ((t5:Int) == 94) fun (t14:Bool)=>lett (fun (t11_35:Bool) (h_36:AHeap)=>k29 t11_35 h_36) fun k34=>ifB t14 (k34 true h_3) (lett ((t5:Int) == 45) fun (t15:Bool)=>k34 t15 h_3))))
theorem z13a{call:zc}(hc:SaysAll Pg call){n:Nat}{t0:AV}{h:AHeap}{rR:ARes}{hR:AHeap}(z:z1c call n t0 h=some (rR,hR)):Says Pg 100 [t0] h rR hR:=by
 unfold z1c at z;refine sO Tryd.func100 fun w0 m0=>?_;refine wW [(0,t0)] ?_;refine oG fun n1=>W.r ?_;refine oA 2 (.int .u8 0) ?_;refine oV [(0,t0)] (n1 ?_);refine oJ fun n2 p2=>W.r ?_;refine oA 4 t0 ?_;refine oCK hc (some 5) z (fun q=>p2 (Pf q)) fun r5 h_3 z=>?_
 replace z:=oS z;obtain⟨t5,c5,z⟩:=z
 have c5:=z17 c5;subst c5;refine oA 3 (.int .u8 t5) ?_;refine oV [(0,t0),(3,.int .u8 t5)] (n2 ?_);refine W.s (fun _ n6 _ q6 p6=>?_);refine oG fun n7=>W.r ?_;refine oA 6 (.int .u8 t5) ?_;refine oV [(0,t0),(3,.int .u8 t5),(6,.int .u8 t5)] (n7 ?_);refine yc (by kernel_rfl) (fun K8 n8 s8 o8 q8 p8=>?_);refine oG fun n9=>W.r ?_;refine oB 8 z fun t8 z=>?_;refine oA 7 (.bool t8) ?_;refine oV [(0,t0),(3,.int .u8 t5),(6,.int .u8 t5),(7,.bool t8)] (n9 ?_)
 cases t8 with
 |true=>
  refine oT z fun z=>?_;refine oJ fun n11 p11=>W.r ?_;refine oA 9 t0 ?_;refine oCK hc (some 10) z (fun q=>p11 (p8 (p6 (Pf q)))) fun r10 h_12 z=>?_
  replace z:=oS z;obtain⟨t10,c14,z⟩:=z
  have c14:=z17 c14;subst c14;refine oA 2 (.int .u8 t10) ?_;refine oV [(2,.int .u8 t10)] (n11 (oY (q8 (q6 ?_))));exact lZ z [.tmp 2] [.int .u8 t10] (rT zd)
 |false=>
  refine oU z fun z=>?_;refine W.s (fun K16 n16 _ _ _=>?_);refine oG fun n17=>W.r ?_;refine oB 12 z fun t12 z=>?_;refine oA 11 (.bool t12) ?_;refine oV [(0,t0),(3,.int .u8 t5),(6,.int .u8 t5),(11,.bool t12)] (n17 ?_);obtain⟨k19,e19,z⟩:=lS z
  have J19:∀(t11:Bool) (h_20:AHeap),k19 t11 h_20=some (rR,hR)→Go w0 m0 (Func.ntmps Tryd.f100) (K16 .normal) [(0,t0),(3,.int .u8 t5),(11,.bool t11)] [] h_20:=by
   intro t11 h_20 z;rw[e19] at z;refine n16 ?_;obtain⟨k21,e21,z⟩:=lS z
   have J21:∀(h_22:AHeap),k21 h_22=some (rR,hR)→Go w0 m0 (Func.ntmps Tryd.f100) (K8 .normal) [(3,.int .u8 t5)] [] h_22:=by
    intro h_22 z;rw[e21] at z;refine n8 (n6 ?_);refine oG fun n23=>W.r ?_;refine oA 18 (.int .u8 t5) ?_;refine oA 2 (.int .u8 t5) ?_;refine oV [(2,.int .u8 t5)] (n23 (oY ?_));exact lZ z [.tmp 2] [.int .u8 t5] (rT zd)
   cases t11 with
   |true=>
    refine oT z fun z=>?_;refine W.r ?_;refine oA 16 t0 ?_;refine oCK hc (some 17) z (fun q=>p8 (p6 (Pf q))) fun r17 h_24 z=>?_;refine oV [(3,.int .u8 t5)] ?_;exact gW _ (J21 _ z)
   |false=>
    refine oU z fun z=>?_;refine oZ ?_;exact gW _ (J21 _ z)
  cases t12 with
  |true=>
   refine oT z fun z=>?_;refine oZ ?_;exact gW _ (J19 _ _ z)
  |false=>
   refine oU z fun z=>?_;refine oG fun n27=>W.r ?_;refine oB 13 z fun t13 z=>?_;refine oA 11 (.bool t13) ?_;refine oV [(0,t0),(3,.int .u8 t5),(6,.int .u8 t5),(11,.bool t13)] (n27 ?_);obtain⟨k29,e29,z⟩:=lS z
   have J29:∀(t11_30:Bool) (h_31:AHeap),k29 t11_30 h_31=some (rR,hR)→Go w0 m0 (Func.ntmps Tryd.f100) (K16 .normal) [(0,t0),(3,.int .u8 t5),(11,.bool t11_30)] [] h_31:=by
    intro t11_30 h_31 z;rw[e29] at z;exact gW _ (J19 _ _ z)
   cases t13 with
   |true=>
    refine oT z fun z=>?_;refine oZ ?_;exact gW _ (J29 _ _ z)
   |false=>
    refine oU z fun z=>?_;refine oG fun n32=>W.r ?_;refine oB 14 z fun t14 z=>?_;refine oA 11 (.bool t14) ?_;refine oV [(0,t0),(3,.int .u8 t5),(6,.int .u8 t5),(11,.bool t14)] (n32 ?_);obtain⟨k34,e34,z⟩:=lS z
    have J34:∀(t11_35:Bool) (h_36:AHeap),k34 t11_35 h_36=some (rR,hR)→Go w0 m0 (Func.ntmps Tryd.f100) (K16 .normal) [(0,t0),(3,.int .u8 t5),(11,.bool t11_35)] [] h_36:=by
     intro t11_35 h_36 z;rw[e34] at z;exact gW _ (J29 _ _ z)
    cases t14 with
    |true=>
     refine oT z fun z=>?_;refine oZ ?_;exact gW _ (J34 _ _ z)
    |false=>
     refine oU z fun z=>?_;refine W.r ?_;refine oB 15 z fun t15 z=>?_;refine oA 11 (.bool t15) ?_;refine oV [(0,t0),(3,.int .u8 t5),(11,.bool t15)] ?_;exact gW _ (J34 _ _ z)
noncomputable def z88(t0:AV)(t2:Int)(k4:AHeap→R)(self:Int→AHeap→R)(t6:Int)(h_7:AHeap):R:=lett (IntKind.i64.wrap t2) fun (t11:Int)=>lett (decide (t6≤t11)) fun (t12:Bool)=>ifB t12 (obind (quoI .i64 t6 64) fun t17=>obind (z74 t0) fun t18=>obind (z313 4 1 t18 t17) fun t19=>obind (z7 h_7 t19) fun v20=>obind (avInt .u64 v20) fun t20=>obind (remI .i64 t6 64) fun t22=>obind (shlI .u64 1 t22) fun t23=>lett (orI .u64 t20 t23) fun (t24:Int)=>obind (z74 t0) fun t25=>obind (z313 4 1 t25 t17) fun t26=>obind (z15 h_7 1 [.int .u64 t24] t26) fun h_24=>lett (IntKind.i64.wrap (t6+1)) fun (t14:Int)=>self t14 h_24) (k4 h_7)
noncomputable def z94(t0:AV)(t2:Int)(k4:AHeap→R):Nat→Int→AHeap→R:=ze6 (fun _ _=>none) (z88 t0 t2 k4)
theorem ze3(t0:AV)(t2:Int)(k4:AHeap→R)(m:Nat):z94 t0 t2 k4 (m+1)=z88 t0 t2 k4 (z94 t0 t2 k4 m):=rfl
noncomputable def z9e(_:zc)(n:Nat)(t0:AV)(t1:Int)(t2:Int)(h:AHeap):R:=lett (IntKind.i64.wrap t1) fun (t8:Int)=>lett (fun (h_5:AHeap)=>some (.ret (.tup []),h_5)) fun k4=>z94 t0 t2 k4 n t8 h
theorem z21d{call:zc}(hc:SaysAll Pg call){n:Nat}{t0:AV}{t1:Int}{t2:Int}{h:AHeap}{rR:ARes}{hR:AHeap}(z:z9e call n t0 t1 t2 h=some (rR,hR)):Says Pg 91 [t0,.int .u8 t1,.int .u8 t2] h rR hR:=by
 unfold z9e at z;refine sO Tryd.func91 fun w0 m0=>?_;refine wW [(0,t0),(1,.int .u8 t1),(2,.int .u8 t2)] ?_;refine oG fun n1=>W.r ?_;refine oA 7 (.int .u8 t1) ?_;refine oI 8 .i64 z fun t8 z=>?_;refine oA 6 (.int .i64 t8) ?_;refine oV [(0,t0),(2,.int .u8 t2),(6,.int .i64 t8)] (n1 ?_);obtain⟨k4,e4,z⟩:=lS z
 have J4:∀(h_5:AHeap),k4 h_5=some (rR,hR)→Go w0 m0 (Func.ntmps Tryd.f91) (Fin Pg Tryd.f91 w0 m0 rR hR .normal) [] [] h_5:=by
  intro h_5 z;rw[e4] at z;exact lY z [] [] zd
 refine yc (by kernel_rfl) (fun K3 n3 s3 o3 q3 p3=>?_);refine y14 (by kernel_rfl) (fun I6 K6 b6 n6 e6 q6 p6=>?_)
 have L6:∀(m:Nat) (t6:Int) (h_7:AHeap),z94 t0 t2 k4 m t6 h_7=some (rR,hR)→Go w0 m0 (Func.ntmps Tryd.f91) I6 [(0,t0),(2,.int .u8 t2),(6,.int .i64 t6)] [] h_7:=by
  intro m
  induction m with
  |zero=>intro t6 h_7 z;cases z
  |succ m ih6=>
   intro t6 h_7 z;rw[ze3] at z;unfold z88 at z;refine b6 ?_;refine W.s (fun _ n8 e8 _ _=>?_);refine oG fun n9=>W.r ?_;refine oA 9 (.int .i64 t6) ?_;refine oA 10 (.int .u8 t2) ?_;refine oI 11 .i64 z fun t11 z=>?_;refine oB 12 z fun t12 z=>?_;refine oV [(0,t0),(2,.int .u8 t2),(6,.int .i64 t6),(12,.bool t12)] (n9 ?_)
   cases t12 with
   |true=>
    refine oT z fun z=>?_;refine oZ (n8 ?_);refine oG fun n12=>?_;refine yc (by kernel_rfl) (fun K13 n13 s13 o13 q13 p13=>?_);refine y21 (by kernel_rfl) (hc.ok w0) (plan:=[0,1,2,3,4,5,6,7,8,9,10,11,12]) (by kernel_rfl) (by kernel_rfl) (by kernel_rfl) ?_;refine WD.a 0 (some 15) t0 h_7 ?_;refine WD.a 0 (some 16) (.int .i64 t6) h_7 ?_;obtain⟨t17,e14,z⟩:=oS z;refine WD.b 0 (some 17) (.int .i64 t17) h_7 (z491 (P:=Pg) (h:=h_7) (t:=3) (lit:=true) e14) ?_;obtain⟨t18,e15,z⟩:=oS z;refine WD.b 0 (some 18) t18 h_7 (z2c (h:=h_7) e15) ?_;obtain⟨t19,e16,z⟩:=oS z;refine WD.b 0 (some 19) t19 h_7 (zec (P:=Pg) (h:=h_7) (t:=65) (e':=63) (k:=.i64) (by kernel_rfl) (by kernel_rfl) (by kernel_rfl) e16) ?_
    replace z:=oS z;obtain⟨v20,e17,z⟩:=z
    replace z:=oS z;obtain⟨t20,c18,z⟩:=z
    have c18:=z17 c18;subst c18;refine WD.b 1 (some 20) (.int .u64 t20) h_7 (z14 (P:=Pg) (h:=h_7) (t:=63) (by kernel_rfl) e17) ?_;refine WD.a 0 (some 21) (.int .i64 t6) h_7 ?_;obtain⟨t22,e19,z⟩:=oS z;refine WD.b 0 (some 22) (.int .i64 t22) h_7 (z48c (P:=Pg) (h:=h_7) (t:=3) (lit:=true) e19) ?_;obtain⟨t23,e20,z⟩:=oS z;refine WD.b 0 (some 23) (.int .u64 t23) h_7 (z3cd (P:=Pg) (h:=h_7) (t:=63) (k':=.i64) (lit:=true) e20) ?_;obtain⟨t24,e21,z⟩:=lS z;refine WD.val (d:=(some 24)) (v:=.int .u64 t24) (h':=h_7) (by kernel_rfl) (by kernel_rfl) (z108 (AV.int .u64) e21 (by kernel_rfl)) (k:=0) (by kernel_rfl) (fun e=>absurd e (by decide)) (by decide) ?_;obtain⟨t25,e22,z⟩:=oS z;refine WD.b 0 (some 25) t25 h_7 (z2c (h:=h_7) e22) ?_;obtain⟨t26,e23,z⟩:=oS z;refine WD.b 0 (some 26) t26 h_7 (zec (P:=Pg) (h:=h_7) (t:=65) (e':=63) (k:=.i64) (by kernel_rfl) (by kernel_rfl) (by kernel_rfl) e23) ?_;obtain⟨h_24,e25,z⟩:=oS z;refine WD.eff (h':=h_24) (by kernel_rfl) (by kernel_rfl) (Eq.trans (by kernel_rfl) (z3f (P:=Pg) (h:=h_7) (t:=63) (v:=(.int .u64 t24)) (by kernel_rfl) (by kernel_rfl) e25)) (k:=2) (by kernel_rfl) (fun _=>(by kernel_rfl)) (by decide) ?_;refine WD.nil ?_;refine gW [(0,t0),(2,.int .u8 t2),(6,.int .i64 t6)] (n13 (n12 (W.r ?_)));refine oA 13 (.int .i64 t6) ?_;refine oI 14 .i64 z fun t14 z=>?_;refine oA 6 (.int .i64 t14) ?_;refine oV [(0,t0),(2,.int .u8 t2),(6,.int .i64 t14)] (n6 ?_);exact gW _ (ih6 _ _ z)
   |false=>
    refine oU z fun z=>?_;refine W.exit (by kernel_rfl) ?_;refine e8 (e6 ?_);refine s3 (by kernel_rfl) ?_;exact gW _ (J4 _ z)
 exact gW _ (L6 _ _ _ z)
noncomputable def z86(call:zc)(_:Nat)(t0:Int)(h:AHeap):R:=lett (newH h 68 [.int .i64 0,.int .u64 0,.int .u64 0,.int .u64 0,.int .u64 0,.nsl]) fun h_2=>lett (newH h_2 68 [.int .i64 0,.int .u64 0,.int .u64 0,.int .u64 0,.int .u64 0,.nsl]) fun h_5=>obind (z15 h_5 6 ([.int .i64 2,.int .u64 0,.int .u64 0,.int .u64 0,.int .u64 0,.nsl]:List AV) (z6 h_2)) fun h_7=>callN (call 91 [(AV.ptr (AHeap.next h_2) 1),.int .u8 t0,.int .u8 t0] h_7) fun _ h_10=>obind (z16 h_10 6 (z6 h_2)) fun t9=>obind (z15 h_10 6 t9 (z6 h)) fun h_14=>obind (z16 h_14 6 (z6 h)) fun w2=>some (.ret (.agg w2),h_14)
theorem z21b{call:zc}(hc:SaysAll Pg call){n:Nat}{t0:Int}{h:AHeap}{rR:ARes}{hR:AHeap}(z:z86 call n t0 h=some (rR,hR)):Says Pg 86 [.int .u8 t0] h rR hR:=by
 unfold z86 at z;refine sO Tryd.func86 fun w0 m0=>?_;refine wW [(0,.int .u8 t0)] ?_;refine oG fun n1=>W.r ?_;refine oN 2 z fun h_2 z=>?_;refine oV [(0,.int .u8 t0),(2,z6 h)] (n1 ?_);refine oG fun n4=>W.r ?_;refine oA 4 (.agg ([.int .i64 2,.int .u64 0,.int .u64 0,.int .u64 0,.int .u64 0,.nsl]:List AV)) ?_;refine oN 3 z fun h_5 z=>?_;refine oW 68 (.agg ([.int .i64 2,.int .u64 0,.int .u64 0,.int .u64 0,.int .u64 0,.nsl]:List AV)) z fun h_7 z=>?_;refine oV [(0,.int .u8 t0),(2,z6 h),(3,z6 h_2)] (n4 ?_);refine oG fun n9=>W.r ?_;refine oA 5 (AV.ptr (AHeap.next h_2) 1) ?_;refine oA 6 (.int .u8 t0) ?_;refine oA 7 (.int .u8 t0) ?_;refine oC hc (some 8) z fun r8 h_10 z=>?_;refine oV [(2,z6 h),(3,z6 h_2)] (n9 ?_);refine oG fun n12=>W.r ?_;refine oR 9 68 z fun t9 z=>?_;refine oW 68 (.agg t9) z fun h_14 z=>?_;refine oV [(2,z6 h)] (n12 (oY ?_));obtain⟨w2,e16,z⟩:=oS z;exact lZ z [.cell 2 68] [.agg w2] (rY e16 zd)
noncomputable def z87(call:zc)(_:Nat)(h:AHeap):R:=lett (newH h 68 [.int .i64 0,.int .u64 0,.int .u64 0,.int .u64 0,.int .u64 0,.nsl]) fun h_2=>lett (newH h_2 68 [.int .i64 0,.int .u64 0,.int .u64 0,.int .u64 0,.int .u64 0,.nsl]) fun h_5=>obind (z15 h_5 6 ([.int .i64 2,.int .u64 0,.int .u64 0,.int .u64 0,.int .u64 0,.nsl]:List AV) (z6 h_2)) fun h_7=>callN (call 91 [(AV.ptr (AHeap.next h_2) 1),.int .u8 0,.int .u8 255] h_7) fun _ h_10=>obind (z16 h_10 6 (z6 h_2)) fun t5=>obind (z15 h_10 6 t5 (z6 h)) fun h_14=>obind (z16 h_14 6 (z6 h)) fun w0=>some (.ret (.agg w0),h_14)
theorem z21c{call:zc}(hc:SaysAll Pg call){n:Nat}{h:AHeap}{rR:ARes}{hR:AHeap}(z:z87 call n h=some (rR,hR)):Says Pg 85 [] h rR hR:=by
 unfold z87 at z;refine sO Tryd.func85 fun w0 m0=>?_;refine wW [] ?_;refine oG fun n1=>W.r ?_;refine oN 0 z fun h_2 z=>?_;refine oV [(0,z6 h)] (n1 ?_);refine oG fun n4=>W.r ?_;refine oA 2 (.agg ([.int .i64 2,.int .u64 0,.int .u64 0,.int .u64 0,.int .u64 0,.nsl]:List AV)) ?_;refine oN 1 z fun h_5 z=>?_;refine oW 68 (.agg ([.int .i64 2,.int .u64 0,.int .u64 0,.int .u64 0,.int .u64 0,.nsl]:List AV)) z fun h_7 z=>?_;refine oV [(0,z6 h),(1,z6 h_2)] (n4 ?_);refine oG fun n9=>W.r ?_;refine oA 3 (AV.ptr (AHeap.next h_2) 1) ?_;refine oC hc (some 4) z fun r4 h_10 z=>?_;refine oV [(0,z6 h),(1,z6 h_2)] (n9 ?_);refine oG fun n12=>W.r ?_;refine oR 5 68 z fun t5 z=>?_;refine oW 68 (.agg t5) z fun h_14 z=>?_;refine oV [(0,z6 h)] (n12 (oY ?_));obtain⟨w0,e16,z⟩:=oS z;exact lZ z [.cell 0 68] [.agg w0] (rY e16 zd)
noncomputable def zfd(_:zc)(_:Nat)(t0:Int)(t1:AV)(h:AHeap):R:=lett (newH h 68 [.int .i64 0,.int .u64 0,.int .u64 0,.int .u64 0,.int .u64 0,.nsl]) fun h_2=>obind (z2d3 Pg 68 [(0,.int .i64 t0),(2,t1)]) fun t7=>obind (z15 h_2 6 t7 (z6 h)) fun h_6=>obind (z16 h_6 6 (z6 h)) fun w4=>some (.ret (.agg w4),h_6)
theorem z2a6{call:zc}(_:SaysAll Pg call){n:Nat}{t0:Int}{t1:AV}{h:AHeap}{rR:ARes}{hR:AHeap}(z:zfd call n t0 t1 h=some (rR,hR)):Says Pg 84 [.int .i64 t0,t1] h rR hR:=by
 unfold zfd at z;refine sO Tryd.func84 fun w0 m0=>?_;refine wW [(0,.int .i64 t0),(1,t1)] ?_;refine oG fun n1=>W.r ?_;refine oN 4 z fun h_2 z=>?_;refine oV [(0,.int .i64 t0),(1,t1),(4,z6 h)] (n1 ?_);refine oG fun n4=>W.r ?_;refine oA 5 (.int .i64 t0) ?_;refine oA 6 t1 ?_;obtain⟨t7,e5,z⟩:=oS z;refine WL.val (d:=(some 7)) (v:=.agg t7) (h':=h_2) (by kernel_rfl) (by kernel_rfl) (z1e9 (by kernel_rfl) e5) ?_;refine oW 68 (.agg t7) z fun h_6 z=>?_;refine oV [(4,z6 h)] (n4 (oY ?_));obtain⟨w4,e8,z⟩:=oS z;exact lZ z [.cell 4 68] [.agg w4] (rY e8 zd)
noncomputable def z93(call:zc)(_:Nat)(t0:AV)(h:AHeap):R:=lett (newH h 68 [.int .i64 0,.int .u64 0,.int .u64 0,.int .u64 0,.int .u64 0,.nsl]) fun h_2=>obind (z17d t0) fun t4=>lett ((t4:Int) == 0) fun (t6:Bool)=>ifB t6 (obind (z15 h_2 6 ([.int .i64 1,.int .u64 0,.int .u64 0,.int .u64 0,.int .u64 0,.nsl]:List AV) (z6 h)) fun h_11=>obind (z16 h_11 6 (z6 h)) fun w2=>some (.ret (.agg w2),h_11)) (lett ((t4:Int) == 1) fun (t9:Bool)=>ifB t9 (obind (z1a8 6 t0 0) fun t11=>obind (z16 h_2 6 t11) fun t12=>obind (z15 h_2 6 t12 (z6 h)) fun h_19=>obind (z16 h_19 6 (z6 h)) fun w2_22=>some (.ret (.agg w2_22),h_19)) (callN (call 84 [.int .i64 3,t0] h_2) fun r14 h_24=>obind (z65 r14) fun t14=>obind (z15 h_24 6 t14 (z6 h)) fun h_27=>obind (z16 h_27 6 (z6 h)) fun w2_30=>some (.ret (.agg w2_30),h_27)))
theorem z281{call:zc}(hc:SaysAll Pg call){n:Nat}{t0:AV}{h:AHeap}{rR:ARes}{hR:AHeap}(z:z93 call n t0 h=some (rR,hR)):Says Pg 82 [t0] h rR hR:=by
 unfold z93 at z;refine sO Tryd.func82 fun w0 m0=>?_;refine wW [(0,t0)] ?_;refine oG fun n1=>W.r ?_;refine oN 2 z fun h_2 z=>?_;refine oV [(0,t0),(2,z6 h)] (n1 ?_);refine oH fun n4 q4=>?_;refine oG fun n5=>W.r ?_;refine oA 3 t0 ?_;refine oM 4 66 68 z fun t4 z=>?_;refine oV [(0,t0),(2,z6 h),(4,.int .i64 t4)] (n5 ?_);refine yc (by kernel_rfl) (fun K7 n7 s7 o7 q7 p7=>?_);refine oG fun n8=>W.r ?_;refine oB 6 z fun t6 z=>?_;refine oA 5 (.bool t6) ?_;refine oV [(0,t0),(2,z6 h),(4,.int .i64 t4),(5,.bool t6)] (n8 ?_)
 cases t6 with
 |true=>
  refine oT z fun z=>?_;refine oG fun n10=>W.r ?_;refine oA 7 (.agg ([.int .i64 1,.int .u64 0,.int .u64 0,.int .u64 0,.int .u64 0,.nsl]:List AV)) ?_;refine oW 68 (.agg ([.int .i64 1,.int .u64 0,.int .u64 0,.int .u64 0,.int .u64 0,.nsl]:List AV)) z fun h_11 z=>?_;refine oV [(2,z6 h)] (n10 (oY (q7 (q4 ?_))));obtain⟨w2,e13,z⟩:=oS z;exact lZ z [.cell 2 68] [.agg w2] (rY e13 zd)
 |false=>
  refine oU z fun z=>?_;refine oG fun n14=>W.r ?_;refine oB 9 z fun t9 z=>?_;refine oA 8 (.bool t9) ?_;refine oV [(0,t0),(2,z6 h),(8,.bool t9)] (n14 ?_)
  cases t9 with
  |true=>
   refine oT z fun z=>?_;refine oG fun n16=>W.r ?_;refine oA 10 t0 ?_;refine oP 11 66 68 .i64 z fun t11 z=>?_;refine oR 12 68 z fun t12 z=>?_;refine oW 68 (.agg t12) z fun h_19 z=>?_;refine oV [(2,z6 h)] (n16 (oY (q7 (q4 ?_))));obtain⟨w2_22,e21,z⟩:=oS z;exact lZ z [.cell 2 68] [.agg w2_22] (rY e21 zd)
  |false=>
   refine oU z fun z=>?_;refine oZ (n7 (n4 ?_));refine oG fun n23=>W.r ?_;refine oA 13 t0 ?_;refine oCa hc 14 z fun t14 h_24 z=>?_;refine oW 68 (.agg t14) z fun h_27 z=>?_;refine oV [(2,z6 h)] (n23 (oY ?_));obtain⟨w2_30,e29,z⟩:=oS z;exact lZ z [.cell 2 68] [.agg w2_30] (rY e29 zd)
noncomputable def z1e7(call:zc)(_:Nat)(t0:List AV)(h:AHeap):R:=
 outK (z118 h 51 (some (.agg t0))) fun v1 h_2=>
 obind (z16 h_2 2 v1) fun t9=>
 callN (call 36 [.agg t9] h_2) fun r10 h_6=>
 obind (z153 0 r10) fun v11=>
 obind (z65 v11) fun t11=>
 obind (z153 1 r10) fun v12=>
 obind (z65 v12) fun t12=>
 lett (newH h_6 68 [.int .i64 0,.int .u64 0,.int .u64 0,.int .u64 0,.int .u64 0,.nsl]) fun h_12=>
 lett (newH h_12 70 [.int .i64 0,.int .i64 0]) fun h_14=>
 obind (z15 h_14 6 t11 (z6 h_6)) fun h_16=>
 obind (z15 h_16 2 t12 (z6 h_12)) fun h_18=>
 obind (z7 h_18 (AV.ptr (AHeap.next h_12) 0)) fun v14=>
 obind (avInt .i64 v14) fun t14=>
 lett ((t14:Int) != 0) fun (t15:Bool)=>
 ifB t15
 (
  some (.ret (.tup [AV.nilp,.int .i64 2]),h_18))
 (
  outK (z118 h_18 86 (some (.agg ([.bool false,.int .u64 0,.int .u64 0,.int .u64 0,.int .u64 0,.int .u64 0,.int .u64 0,.int .u64 0,.int .u64 0,.int .u64 0,.int .u64 0,.int .u64 0,.int .u64 0,.int .u64 0,.int .u64 0,.int .u64 0,.int .u64 0,.int .u64 0,.int .u64 0,.int .u64 0,.int .u64 0,.int .u64 0,.int .u64 0,.int .u64 0,.int .u64 0,.int .u64 0,.int .u64 0,.int .u64 0,.int .u64 0,.int .u64 0,.int .u64 0,.int .u64 0,.int .u64 0,.int .u64 0,.int .u64 0,.int .u64 0,.int .u64 0,.int .u64 0,.int .u64 0,.int .u64 0,.int .u64 0,.int .u64 0,.int .u64 0,.int .u64 0,.int .u64 0,.int .u64 0,.int .u64 0,.int .u64 0,.int .u64 0,.int .u64 0,.int .u64 0,.int .u64 0,.int .u64 0,.int .u64 0,.int .u64 0,.int .u64 0,.int .u64 0,.int .u64 0,.int .u64 0,.int .u64 0,.int .u64 0,.int .u64 0,.int .u64 0,.int .u64 0,.int .u64 0,.int .u64 0,.int .u64 0,.int .u64 0,.int .u64 0,.int .u64 0,.int .u64 0,.int .u64 0,.int .u64 0,.int .u64 0,.int .u64 0,.int .u64 0,.int .u64 0,.int .u64 0,.int .u64 0,.int .u64 0,.int .u64 0,.int .u64 0,.int .u64 0,.int .u64 0,.int .u64 0,.int .u64 0,.int .u64 0,.int .u64 0,.int .u64 0,.int .u64 0,.int .u64 0,.int .u64 0,.int .u64 0,.int .u64 0,.int .u64 0,.int .u64 0,.int .u64 0,.int .u64 0,.int .u64 0,.int .u64 0,.int .u64 0,.int .u64 0,.int .u64 0,.int .u64 0,.int .u64 0,.int .u64 0,.int .u64 0,.int .u64 0,.int .u64 0,.int .u64 0,.int .u64 0,.int .u64 0,.int .u64 0,.int .u64 0,.int .u64 0,.int .u64 0,.int .u64 0,.int .u64 0,.int .u64 0,.int .u64 0,.int .u64 0,.int .u64 0,.int .u64 0,.int .u64 0,.int .u64 0,.int .u64 0,.int .u64 0,.int .u64 0,.int .u64 0,.int .u64 0,.int .u64 0,.int .u64 0,.int .u64 0,.int .u64 0,.int .u64 0,.int .u64 0,.int .u64 0,.int .u64 0,.int .u64 0,.int .u64 0,.int .u64 0,.int .u64 0,.int .u64 0,.int .u64 0,.int .u64 0,.int .u64 0,.int .u64 0,.int .u64 0,.int .u64 0,.int .u64 0,.int .u64 0,.int .u64 0,.int .u64 0,.int .u64 0,.int .u64 0,.int .u64 0,.int .u64 0,.int .u64 0,.int .u64 0,.int .u64 0,.int .u64 0,.int .u64 0,.int .u64 0,.int .u64 0,.int .u64 0,.int .u64 0,.int .u64 0,.int .u64 0,.int .u64 0,.int .u64 0,.int .u64 0,.int .u64 0,.int .u64 0,.int .u64 0,.int .u64 0,.int .u64 0,.int .u64 0,.int .u64 0,.int .u64 0,.int .u64 0,.int .u64 0,.int .u64 0,.int .u64 0,.int .u64 0,.int .u64 0,.int .u64 0,.int .u64 0,.int .u64 0,.int .u64 0,.int .u64 0,.int .u64 0,.int .u64 0,.int .u64 0,.int .u64 0,.int .u64 0,.int .u64 0,.int .u64 0,.int .u64 0,.int .u64 0,.int .u64 0,.int .u64 0,.int .u64 0,.int .u64 0,.int .u64 0,.int .u64 0,.int .u64 0,.int .u64 0,.int .u64 0,.int .u64 0,.int .u64 0,.int .u64 0,.int .u64 0,.int .u64 0,.int .u64 0,.int .u64 0,.int .u64 0,.int .u64 0,.int .u64 0,.int .u64 0,.int .u64 0,.int .u64 0,.int .u64 0,.int .u64 0,.int .u64 0,.int .u64 0,.int .u64 0,.int .u64 0,.int .u64 0,.int .u64 0,.int .u64 0,.int .u64 0,.int .u64 0,.int .u64 0,.int .u64 0,.int .u64 0,.int .u64 0,.int .u64 0,.int .u64 0,.int .u64 0,.int .u64 0,.int .u64 0,.int .u64 0,.int .u64 0,.int .u64 0,.int .u64 0,.int .u64 0,.int .u64 0,.int .u64 0,.int .u64 0,.int .u64 0,.int .u64 0,.int .u64 0,.int .u64 0,.int .u64 0,.int .u64 0,.int .u64 0,.int .u64 0,.int .u64 0,.int .u64 0,.int .u64 0,.int .u64 0,.int .u64 0,.int .u64 0,.int .u64 0,.int .u64 0,.int .u64 0,.int .u64 0,.int .u64 0,.int .u64 0,.int .u64 0,.int .u64 0,.int .u64 0,.int .u64 0,.int .u64 0,.int .u64 0,.int .u64 0,.int .u64 0,.int .u64 0,.int .u64 0,.int .u64 0,.int .u64 0,.int .u64 0,.int .u64 0,.int .u64 0,.int .u64 0,.int .u64 0,.int .u64 0,.int .u64 0,.int .u64 0,.int .u64 0,.int .u64 0,.int .u64 0,.int .u64 0,.int .u64 0,.int .u64 0,.int .u64 0,.int .u64 0,.int .u64 0,.int .u64 0,.int .u64 0,.int .u64 0,.int .u64 0,.int .u64 0,.int .u64 0,.int .u64 0,.int .u64 0,.int .u64 0,.int .u64 0,.int .u64 0,.int .u64 0,.int .u64 0,.int .u64 0,.int .u64 0,.int .u64 0,.int .u64 0,.int .u64 0,.int .u64 0,.int .u64 0,.int .u64 0,.int .u64 0,.int .u64 0,.int .u64 0,.int .u64 0]:List AV)))) fun v17 h_27=>
  obind (z2d3 Tryd.prog 88 [(0,v17)]) fun t18=>
  lett (newH h_27 88 [.nilp,.int .i64 0]) fun h_30=>
  obind (z15 h_30 2 t18 (z6 h_27)) fun h_32=>
  obind (z16 h_32 6 (z6 h_6)) fun t19=>
  callN (call 37 [(z6 h_27),.agg t19] h_32) fun r20 h_36=>
  obind (z65 r20) fun t20=>
  lett (newH h_36 90 [.bool false,.int .u64 0,.int .u64 0]) fun h_39=>
  obind (z15 h_39 3 t20 (z6 h_36)) fun h_41=>
  obind (z7 h_41 (AV.ptr (AHeap.next h_27) 0)) fun v22=>
  obind (z7 h_41 (AV.ptr (AHeap.next h_27) 0)) fun v24=>
  obind (z7 h_41 (AV.ptr (AHeap.next h_27) 0)) fun v26=>
  obind (z7 h_41 (AV.ptr (AHeap.next h_36) 0)) fun v28=>
  obind (z23 v28) fun t28=>
  obind (z7 h_41 (AV.ptr (AHeap.next h_36) 1)) fun v30=>
  obind (avInt .u64 v30) fun t30=>
  obind (z7 h_41 (AV.ptr (AHeap.next h_36) 2)) fun v32=>
  obind (avInt .u64 v32) fun t32=>
  obind (z74 v22) fun t33=>
  obind (z49 0 t33) fun t34=>
  obind (z15 h_41 1 [.bool t28] t34) fun h_55=>
  chk (z135 Tryd.prog h_55 63 (AV.ptr (AHeap.next h_36) 2) (.int .u64 t32)&&(z135 Tryd.prog h_55 63 (AV.ptr (AHeap.next h_36) 1) (.int .u64 t30)&&(true&&(true&&(true&&(true&&true))))))<|
  obind (z74 v24) fun t35=>
  obind (z49 1 t35) fun t36=>
  obind (z15 h_55 1 [.int .u64 t30] t36) fun h_60=>
  chk (z135 Tryd.prog h_60 63 (AV.ptr (AHeap.next h_36) 2) (.int .u64 t32)&&(true&&(true&&(true&&(true&&(true&&true))))))<|
  obind (z74 v26) fun t37=>
  obind (z49 2 t37) fun t38=>
  obind (z15 h_60 1 [.int .u64 t32] t38) fun h_65=>
  obind (z7 h_65 (AV.ptr (AHeap.next h_27) 0)) fun v40=>
  callN (call 38 [v40] h_65) fun _ h_69=>
  obind (z7 h_69 (AV.ptr (AHeap.next h_27) 0)) fun v43=>
  some (.ret (.tup [v43,.int .i64 0]),h_69))
set_option maxHeartbeats 4000000 in
set_option maxRecDepth 20000 in
theorem z4a2{call:zc}(hc:SaysAll Tryd.prog call){n:Nat}{t0:List AV}{h:AHeap}{rR:ARes}{hR:AHeap}(hF:z1e7 call n t0 h=some (rR,hR)):Says Tryd.prog 25 [.agg t0] h rR hR:=by
 unfold z1e7 at hF;refine sO Tryd.func25 fun w0 m0=>?_;refine wW [(0,.agg t0)] ?_;refine oG fun n1=>W.r ?_;refine oK 1 hF fun v1 h_2 hF=>?_;refine oA 2 AV.nilp ?_;refine oA 3 (.int .i64 0) ?_;refine oV [(1,v1)] (n1 ?_);refine oG fun n4=>W.r ?_;refine oR 9 51 hF fun t9 hF=>?_;refine oC hc (some 10) hF fun r10 h_6 hF=>?_;refine oA 8 r10 ?_;refine oEa 11 hF fun t11 hF=>?_;refine oEa 12 hF fun t12 hF=>?_;refine oN 4 hF fun h_12 hF=>?_;refine oN 5 hF fun h_14 hF=>?_;refine oW 68 (.agg t11) hF fun h_16 hF=>?_;refine oW 70 (.agg t12) hF fun h_18 hF=>?_;refine oV [(4,(z6 h_6)),(5,(z6 h_12))] (n4 ?_);refine oH fun n20 q20=>?_;refine oG fun n21=>W.r ?_;refine oA 13 (AV.ptr (AHeap.next h_12) 0) ?_;refine oLi 14 32 hF fun t14 hF=>?_;refine oB 15 hF fun t15 hF=>?_;refine oV [(4,(z6 h_6)),(15,.bool t15)] (n21 ?_)
 cases t15 with
 |true=>
  refine oT hF fun hF=>?_;refine oG fun n25=>W.r ?_;refine oA 2 AV.nilp ?_;refine oA 3 (.int .i64 2) ?_;refine oV [(2,AV.nilp),(3,.int .i64 2)] (n25 (oY (q20 ?_)));exact lZ hF [.tmp 2,.tmp 3] [AV.nilp,.int .i64 2] (rT (rT zd))
 |false=>
  refine oU hF fun hF=>?_;refine oZ (n20 ?_);refine oG fun n26=>W.r ?_;refine oA 16 (.agg ([.bool false,.int .u64 0,.int .u64 0,.int .u64 0,.int .u64 0,.int .u64 0,.int .u64 0,.int .u64 0,.int .u64 0,.int .u64 0,.int .u64 0,.int .u64 0,.int .u64 0,.int .u64 0,.int .u64 0,.int .u64 0,.int .u64 0,.int .u64 0,.int .u64 0,.int .u64 0,.int .u64 0,.int .u64 0,.int .u64 0,.int .u64 0,.int .u64 0,.int .u64 0,.int .u64 0,.int .u64 0,.int .u64 0,.int .u64 0,.int .u64 0,.int .u64 0,.int .u64 0,.int .u64 0,.int .u64 0,.int .u64 0,.int .u64 0,.int .u64 0,.int .u64 0,.int .u64 0,.int .u64 0,.int .u64 0,.int .u64 0,.int .u64 0,.int .u64 0,.int .u64 0,.int .u64 0,.int .u64 0,.int .u64 0,.int .u64 0,.int .u64 0,.int .u64 0,.int .u64 0,.int .u64 0,.int .u64 0,.int .u64 0,.int .u64 0,.int .u64 0,.int .u64 0,.int .u64 0,.int .u64 0,.int .u64 0,.int .u64 0,.int .u64 0,.int .u64 0,.int .u64 0,.int .u64 0,.int .u64 0,.int .u64 0,.int .u64 0,.int .u64 0,.int .u64 0,.int .u64 0,.int .u64 0,.int .u64 0,.int .u64 0,.int .u64 0,.int .u64 0,.int .u64 0,.int .u64 0,.int .u64 0,.int .u64 0,.int .u64 0,.int .u64 0,.int .u64 0,.int .u64 0,.int .u64 0,.int .u64 0,.int .u64 0,.int .u64 0,.int .u64 0,.int .u64 0,.int .u64 0,.int .u64 0,.int .u64 0,.int .u64 0,.int .u64 0,.int .u64 0,.int .u64 0,.int .u64 0,.int .u64 0,.int .u64 0,.int .u64 0,.int .u64 0,.int .u64 0,.int .u64 0,.int .u64 0,.int .u64 0,.int .u64 0,.int .u64 0,.int .u64 0,.int .u64 0,.int .u64 0,.int .u64 0,.int .u64 0,.int .u64 0,.int .u64 0,.int .u64 0,.int .u64 0,.int .u64 0,.int .u64 0,.int .u64 0,.int .u64 0,.int .u64 0,.int .u64 0,.int .u64 0,.int .u64 0,.int .u64 0,.int .u64 0,.int .u64 0,.int .u64 0,.int .u64 0,.int .u64 0,.int .u64 0,.int .u64 0,.int .u64 0,.int .u64 0,.int .u64 0,.int .u64 0,.int .u64 0,.int .u64 0,.int .u64 0,.int .u64 0,.int .u64 0,.int .u64 0,.int .u64 0,.int .u64 0,.int .u64 0,.int .u64 0,.int .u64 0,.int .u64 0,.int .u64 0,.int .u64 0,.int .u64 0,.int .u64 0,.int .u64 0,.int .u64 0,.int .u64 0,.int .u64 0,.int .u64 0,.int .u64 0,.int .u64 0,.int .u64 0,.int .u64 0,.int .u64 0,.int .u64 0,.int .u64 0,.int .u64 0,.int .u64 0,.int .u64 0,.int .u64 0,.int .u64 0,.int .u64 0,.int .u64 0,.int .u64 0,.int .u64 0,.int .u64 0,.int .u64 0,.int .u64 0,.int .u64 0,.int .u64 0,.int .u64 0,.int .u64 0,.int .u64 0,.int .u64 0,.int .u64 0,.int .u64 0,.int .u64 0,.int .u64 0,.int .u64 0,.int .u64 0,.int .u64 0,.int .u64 0,.int .u64 0,.int .u64 0,.int .u64 0,.int .u64 0,.int .u64 0,.int .u64 0,.int .u64 0,.int .u64 0,.int .u64 0,.int .u64 0,.int .u64 0,.int .u64 0,.int .u64 0,.int .u64 0,.int .u64 0,.int .u64 0,.int .u64 0,.int .u64 0,.int .u64 0,.int .u64 0,.int .u64 0,.int .u64 0,.int .u64 0,.int .u64 0,.int .u64 0,.int .u64 0,.int .u64 0,.int .u64 0,.int .u64 0,.int .u64 0,.int .u64 0,.int .u64 0,.int .u64 0,.int .u64 0,.int .u64 0,.int .u64 0,.int .u64 0,.int .u64 0,.int .u64 0,.int .u64 0,.int .u64 0,.int .u64 0,.int .u64 0,.int .u64 0,.int .u64 0,.int .u64 0,.int .u64 0,.int .u64 0,.int .u64 0,.int .u64 0,.int .u64 0,.int .u64 0,.int .u64 0,.int .u64 0,.int .u64 0,.int .u64 0,.int .u64 0,.int .u64 0,.int .u64 0,.int .u64 0,.int .u64 0,.int .u64 0,.int .u64 0,.int .u64 0,.int .u64 0,.int .u64 0,.int .u64 0,.int .u64 0,.int .u64 0,.int .u64 0,.int .u64 0,.int .u64 0,.int .u64 0,.int .u64 0,.int .u64 0,.int .u64 0,.int .u64 0,.int .u64 0,.int .u64 0,.int .u64 0,.int .u64 0,.int .u64 0,.int .u64 0,.int .u64 0,.int .u64 0,.int .u64 0,.int .u64 0,.int .u64 0,.int .u64 0,.int .u64 0,.int .u64 0,.int .u64 0,.int .u64 0,.int .u64 0,.int .u64 0,.int .u64 0,.int .u64 0,.int .u64 0,.int .u64 0,.int .u64 0,.int .u64 0,.int .u64 0,.int .u64 0,.int .u64 0,.int .u64 0,.int .u64 0,.int .u64 0,.int .u64 0,.int .u64 0,.int .u64 0,.int .u64 0,.int .u64 0,.int .u64 0,.int .u64 0,.int .u64 0,.int .u64 0,.int .u64 0,.int .u64 0,.int .u64 0,.int .u64 0,.int .u64 0,.int .u64 0,.int .u64 0,.int .u64 0,.int .u64 0,.int .u64 0,.int .u64 0,.int .u64 0,.int .u64 0,.int .u64 0]:List AV)) ?_;refine oK 17 hF fun v17 h_27 hF=>?_;obtain⟨t18,e29,hF⟩:=z3 hF;refine WL.val (d:=(some 18)) (v:=.agg t18) (h':=h_27) (by kernel_rfl) (by kernel_rfl) (z1e9 (by kernel_rfl) e29) ?_;refine oN 6 hF fun h_30 hF=>?_;refine oW 88 (.agg t18) hF fun h_32 hF=>?_;refine oV [(4,(z6 h_6)),(6,(z6 h_27))] (n26 ?_);refine oG fun n34=>W.r ?_;refine oR 19 68 hF fun t19 hF=>?_;refine oCa hc 20 hF fun t20 h_36 hF=>?_;refine oN 7 hF fun h_39 hF=>?_;refine oW 90 (.agg t20) hF fun h_41 hF=>?_;refine oV [(6,(z6 h_27)),(7,(z6 h_36))] (n34 ?_);refine oG fun n43=>?_;refine y21 (by kernel_rfl) (hc.ok w0) (plan:=[0,1,2,3,4,5,6,7,8,9,10,11,12,13,14,15,16,17,18,19,20]) (by kernel_rfl) (by kernel_rfl) (by kernel_rfl) ?_;refine WD.a 0 (some 21) (AV.ptr (AHeap.next h_27) 0) h_41 ?_;obtain⟨v22,e44,hF⟩:=z3 hF;refine WD.b 1 (some 22) v22 h_41 (z14 (P:=Tryd.prog) (h:=h_41) (t:=47) (by kernel_rfl) e44) ?_;refine WD.a 0 (some 23) (AV.ptr (AHeap.next h_27) 0) h_41 ?_;obtain⟨v24,e45,hF⟩:=z3 hF;refine WD.b 1 (some 24) v24 h_41 (z14 (P:=Tryd.prog) (h:=h_41) (t:=47) (by kernel_rfl) e45) ?_;refine WD.a 0 (some 25) (AV.ptr (AHeap.next h_27) 0) h_41 ?_;obtain⟨v26,e46,hF⟩:=z3 hF;refine WD.b 1 (some 26) v26 h_41 (z14 (P:=Tryd.prog) (h:=h_41) (t:=47) (by kernel_rfl) e46) ?_;refine WD.a 0 (some 27) (AV.ptr (AHeap.next h_36) 0) h_41 ?_
  replace hF:=z3 hF;obtain⟨v28,e47,hF⟩:=hF
  replace hF:=z3 hF;obtain⟨t28,c48,hF⟩:=hF
  have c48:=z57 c48;subst c48;refine WD.b 1 (some 28) (.bool t28) h_41 (z14 (P:=Tryd.prog) (h:=h_41) (t:=4) (by kernel_rfl) e47) ?_;refine WD.a 0 (some 29) (AV.ptr (AHeap.next h_36) 1) h_41 ?_
  replace hF:=z3 hF;obtain⟨v30,e49,hF⟩:=hF
  replace hF:=z3 hF;obtain⟨t30,c50,hF⟩:=hF
  have c50:=z17 c50;subst c50;refine WD.b 1 (some 30) (.int .u64 t30) h_41 (z14 (P:=Tryd.prog) (h:=h_41) (t:=63) (by kernel_rfl) e49) ?_;refine WD.a 0 (some 31) (AV.ptr (AHeap.next h_36) 2) h_41 ?_
  replace hF:=z3 hF;obtain⟨v32,e51,hF⟩:=hF
  replace hF:=z3 hF;obtain⟨t32,c52,hF⟩:=hF
  have c52:=z17 c52;subst c52;refine WD.b 1 (some 32) (.int .u64 t32) h_41 (z14 (P:=Tryd.prog) (h:=h_41) (t:=63) (by kernel_rfl) e51) ?_;obtain⟨t33,e53,hF⟩:=z3 hF;refine WD.b 0 (some 33) t33 h_41 (z2c (h:=h_41) e53) ?_;obtain⟨t34,e54,hF⟩:=z3 hF;refine WD.b 0 (some 34) t34 h_41 (z1b (P:=Tryd.prog) (h:=h_41) (s:=86) (f:=0) (by kernel_rfl) e54) ?_;obtain⟨h_55,e56,hF⟩:=z3 hF;obtain⟨k57,hF⟩:=z161 hF;refine WD.eff (h':=h_55) (by kernel_rfl) (by kernel_rfl) (Eq.trans (by kernel_rfl) (z3f (P:=Tryd.prog) (h:=h_41) (t:=4) (v:=(.bool t28)) (by kernel_rfl) (by kernel_rfl) e56)) (k:=2) (by kernel_rfl) (fun _=>(Eq.trans (by kernel_rfl) k57)) (by decide) ?_;obtain⟨t35,e58,hF⟩:=z3 hF;refine WD.b 0 (some 35) t35 h_55 (z2c (h:=h_55) e58) ?_;obtain⟨t36,e59,hF⟩:=z3 hF;refine WD.b 0 (some 36) t36 h_55 (z1b (P:=Tryd.prog) (h:=h_55) (s:=86) (f:=1) (by kernel_rfl) e59) ?_;obtain⟨h_60,e61,hF⟩:=z3 hF;obtain⟨k62,hF⟩:=z161 hF;refine WD.eff (h':=h_60) (by kernel_rfl) (by kernel_rfl) (Eq.trans (by kernel_rfl) (z3f (P:=Tryd.prog) (h:=h_55) (t:=63) (v:=(.int .u64 t30)) (by kernel_rfl) (by kernel_rfl) e61)) (k:=2) (by kernel_rfl) (fun _=>(Eq.trans (by kernel_rfl) k62)) (by decide) ?_;obtain⟨t37,e63,hF⟩:=z3 hF;refine WD.b 0 (some 37) t37 h_60 (z2c (h:=h_60) e63) ?_;obtain⟨t38,e64,hF⟩:=z3 hF;refine WD.b 0 (some 38) t38 h_60 (z1b (P:=Tryd.prog) (h:=h_60) (s:=86) (f:=2) (by kernel_rfl) e64) ?_;obtain⟨h_65,e66,hF⟩:=z3 hF;refine WD.eff (h':=h_65) (by kernel_rfl) (by kernel_rfl) (Eq.trans (by kernel_rfl) (z3f (P:=Tryd.prog) (h:=h_60) (t:=63) (v:=(.int .u64 t32)) (by kernel_rfl) (by kernel_rfl) e66)) (k:=2) (by kernel_rfl) (fun _=>(by kernel_rfl)) (by decide) ?_;refine WD.nil ?_;refine gW [(6,(z6 h_27))] (n43 ?_);refine oG fun n67=>W.r ?_;refine oA 39 (AV.ptr (AHeap.next h_27) 0) ?_;refine oL 40 47 hF fun v40 hF=>?_;refine oC hc (some 41) hF fun r41 h_69 hF=>?_;refine oV [(6,(z6 h_27))] (n67 ?_);refine oG fun n71=>W.r ?_;refine oA 42 (AV.ptr (AHeap.next h_27) 0) ?_;refine oL 43 47 hF fun v43 hF=>?_;refine oA 2 v43 ?_;refine oA 3 (.int .i64 0) ?_;refine oV [(2,v43),(3,.int .i64 0)] (n71 (oY ?_));exact lZ hF [.tmp 2,.tmp 3] [v43,.int .i64 0] (rT (rT zd))
noncomputable def za3(call:zc)(t1:Bytes)(h_4:AHeap)(k17:AHeap→R)(self:Int→AHeap→R)(t13:Int)(h_24:AHeap):R:=lett (decide (t13<(z115 t1))) fun (t14:Bool)=>ifB t14 (obind (idxS t1 t13) fun t18=>callN (call 39 [(z6 h_4),.int .u8 t18] h_24) fun _ h_33=>callN (call 40 [(z6 h_4)] h_33) fun r20 h_36=>obind (z23 r20) fun t20=>ifB t20 (some (.ret (.bool false),h_36)) (lett (IntKind.i64.wrap (t13+1)) fun (t21:Int)=>self t21 h_36)) (k17 h_24)
noncomputable def zba(call:zc)(t1:Bytes)(h_4:AHeap)(k17:AHeap→R):Nat→Int→AHeap→R:=ze6 (fun _ _=>none) (za3 call t1 h_4 k17)
theorem z10b(call:zc)(t1:Bytes)(h_4:AHeap)(k17:AHeap→R)(m:Nat):zba call t1 h_4 k17 (m+1)=za3 call t1 h_4 k17 (zba call t1 h_4 k17 m):=rfl
noncomputable def zdc(call:zc)(n:Nat)(t0:AV)(t1:Bytes)(h:AHeap):R:=outK (ze4 Tryd.prog h .eql 47 true (some t0) (some AV.nilp)) fun v8 h_4=>obind (z23 v8) fun t8=>ifB t8 (some (.ret (.bool false),h_4)) (obind (z2d3 Tryd.prog 93 [(0,t0)]) fun t10=>lett (newH h_4 93 [.nilp,.bool false,.int .u64 0]) fun h_10=>obind (z15 h_10 3 t10 (z6 h_4)) fun h_12=>lett (fun (h_18:AHeap)=>callN (call 41 [(z6 h_4)] h_18) fun r22 h_20=>obind (z23 r22) fun t22=>some (.ret (.bool t22),h_20)) fun k17=>zba call t1 h_4 k17 n 0 h_12)
set_option maxHeartbeats 4000000 in
set_option maxRecDepth 20000 in
theorem z287{call:zc}(hc:SaysAll Tryd.prog call){n:Nat}{t0:AV}{t1:Bytes}{h:AHeap}{rR:ARes}{hR:AHeap}(hF:zdc call n t0 t1 h=some (rR,hR)):Says Tryd.prog 26 [t0,strA t1] h rR hR:=by
 unfold zdc at hF;refine sO Tryd.func26 fun w0 m0=>?_;refine wW [(0,t0),(1,strA t1)] ?_;refine oG fun n1=>W.r ?_;refine oA 4 (.bool false) ?_;refine oV [(0,t0),(1,strA t1)] (n1 ?_);refine oH fun n2 q2=>?_;refine oG fun n3=>W.r ?_;refine oA 7 t0 ?_
 replace hF:=z3c hF;obtain⟨v8,h_4,e5,hF⟩:=hF
 replace hF:=z3 hF;obtain⟨t8,c6,hF⟩:=hF
 have c6:=z57 c6;subst c6;refine WL.b (some 8) (.bool t8) h_4 e5 ?_;refine oV [(0,t0),(1,strA t1),(8,.bool t8)] (n3 ?_)
 cases t8 with
 |true=>
  refine oT hF fun hF=>?_;refine oG fun n7=>W.r ?_;refine oA 4 (.bool false) ?_;refine oV [(4,.bool false)] (n7 (oY (q2 ?_)));exact lZ hF [.tmp 4] [.bool false] (rT zd)
 |false=>
  refine oU hF fun hF=>?_;refine oZ (n2 ?_);refine oG fun n8=>W.r ?_;refine oA 9 t0 ?_;obtain⟨t10,e9,hF⟩:=z3 hF;refine WL.val (d:=(some 10)) (v:=.agg t10) (h':=h_4) (by kernel_rfl) (by kernel_rfl) (z1e9 (by kernel_rfl) e9) ?_;refine oN 5 hF fun h_10 hF=>?_;refine oW 93 (.agg t10) hF fun h_12 hF=>?_;refine oV [(1,strA t1),(5,(z6 h_4))] (n8 ?_);refine W.s (fun K14 n14 e14 q14 p14=>?_);refine oG fun n15=>W.r ?_;refine oA 11 (strA t1) ?_;refine oA 12 (.int .i64 (z115 t1)) ?_;refine oA 13 (.int .i64 0) ?_;refine oV [(1,strA t1),(5,(z6 h_4)),(12,.int .i64 (z115 t1)),(13,.int .i64 0)] (n15 ?_);obtain⟨k17,e17,hF⟩:=z9 hF
  have J17:∀(h_18:AHeap),k17 h_18=some (rR,hR)→Go w0 m0 (Func.ntmps Tryd.f26) (K14 .normal) [(5,(z6 h_4))] [] h_18:=by
   intro h_18 hF;rw[e17] at hF;refine n14 ?_;refine oG fun n19=>W.r ?_;refine oCb hc 22 hF fun t22 h_20 hF=>?_;refine oA 4 (.bool t22) ?_;refine oV [(4,.bool t22)] (n19 (oY ?_));exact lZ hF [.tmp 4] [.bool t22] (rT zd)
  refine yc (by kernel_rfl) (fun K16 n16 s16 o16 q16 p16=>?_);refine y14 (by kernel_rfl) (fun I23 K23 b23 n23 e23 q23 p23=>?_)
  have L23:∀(m:Nat) (t13:Int) (h_24:AHeap),zba call t1 h_4 k17 m t13 h_24=some (rR,hR)→Go w0 m0 (Func.ntmps Tryd.f26) I23 [(1,strA t1),(5,(z6 h_4)),(12,.int .i64 (z115 t1)),(13,.int .i64 t13)] [] h_24:=by
   intro m
   induction m with
   |zero=>intro t13 h_24 hF;cases hF
   |succ m ih23=>
    intro t13 h_24 hF;rw[z10b] at hF;unfold za3 at hF;refine b23 ?_;refine oG fun n25=>W.r ?_;refine oB 14 hF fun t14 hF=>?_;refine oV [(1,strA t1),(5,(z6 h_4)),(12,.int .i64 (z115 t1)),(13,.int .i64 t13),(14,.bool t14)] (n25 ?_);refine W.s (fun K27 n27 e27 q27 p27=>?_)
    cases t14 with
    |true=>
     refine oT hF fun hF=>?_;refine oZ (n27 ?_);refine oH fun n28 q28=>?_;refine yc (by kernel_rfl) (fun K29 n29 s29 o29 q29 p29=>?_);refine oG fun n30=>W.r ?_;refine oA 15 (.int .i64 t13) ?_;refine oA 6 (.int .i64 t13) ?_;refine oV [(1,strA t1),(5,(z6 h_4)),(6,.int .i64 t13),(12,.int .i64 (z115 t1)),(13,.int .i64 t13)] (n30 ?_);refine oG fun n31=>W.r ?_;refine oA 16 (strA t1) ?_;refine oA 17 (.int .i64 t13) ?_;refine oX 18 9 .i64 hF fun t18 hF=>?_;refine oC hc (some 19) hF fun r19 h_33 hF=>?_;refine oV [(1,strA t1),(5,(z6 h_4)),(12,.int .i64 (z115 t1)),(13,.int .i64 t13)] (n31 ?_);refine oG fun n35=>W.r ?_;refine oCb hc 20 hF fun t20 h_36 hF=>?_;refine oV [(1,strA t1),(5,(z6 h_4)),(12,.int .i64 (z115 t1)),(13,.int .i64 t13),(20,.bool t20)] (n35 ?_)
     cases t20 with
     |true=>
      refine oT hF fun hF=>?_;refine oG fun n39=>W.r ?_;refine oA 4 (.bool false) ?_;refine oV [(4,.bool false)] (n39 (oY (q29 (q28 (q23 (q16 (q14 ?_)))))));exact lZ hF [.tmp 4] [.bool false] (rT zd)
     |false=>
      refine oU hF fun hF=>?_;refine oZ (n29 (n28 (W.r ?_)));refine oI 21 .i64 hF fun t21 hF=>?_;refine oA 13 (.int .i64 t21) ?_;refine oV [(1,strA t1),(5,(z6 h_4)),(12,.int .i64 (z115 t1)),(13,.int .i64 t21)] (n23 ?_);exact gW _ (ih23 _ _ hF)
    |false=>
     refine oU hF fun hF=>?_;refine W.exit (by kernel_rfl) ?_;refine e27 (e23 ?_);refine s16 (by kernel_rfl) ?_;exact gW _ (J17 _ hF)
  exact gW _ (L23 _ _ _ hF)
noncomputable def zdd(_:zc)(_:Nat)(t0:AV)(h:AHeap):R:=outK (ze4 Tryd.prog h .eql 47 true (some t0) (some AV.nilp)) fun v4 h_4=>obind (z23 v4) fun t4=>ifB t4 (some (.ret (AV.nilp),h_4)) (obind (z2d3 Tryd.prog 93 [(0,t0)]) fun t6=>outK (z118 h_4 93 (some (.agg t6))) fun v7 h_10=>some (.ret (v7),h_10))
set_option maxHeartbeats 4000000 in
set_option maxRecDepth 20000 in
theorem z288{call:zc}(_:SaysAll Tryd.prog call){n:Nat}{t0:AV}{h:AHeap}{rR:ARes}{hR:AHeap}(hF:zdd call n t0 h=some (rR,hR)):Says Tryd.prog 65 [t0] h rR hR:=by
 unfold zdd at hF;refine sO Tryd.func65 fun w0 m0=>?_;refine wW [(0,t0)] ?_;refine oG fun n1=>W.r ?_;refine oA 2 AV.nilp ?_;refine oV [(0,t0)] (n1 ?_);refine oH fun n2 q2=>?_;refine oG fun n3=>W.r ?_;refine oA 3 t0 ?_
 replace hF:=z3c hF;obtain⟨v4,h_4,e5,hF⟩:=hF
 replace hF:=z3 hF;obtain⟨t4,c6,hF⟩:=hF
 have c6:=z57 c6;subst c6;refine WL.b (some 4) (.bool t4) h_4 e5 ?_;refine oV [(0,t0),(4,.bool t4)] (n3 ?_)
 cases t4 with
 |true=>
  refine oT hF fun hF=>?_;refine oG fun n7=>W.r ?_;refine oA 2 AV.nilp ?_;refine oV [(2,AV.nilp)] (n7 (oY (q2 ?_)));exact lZ hF [.tmp 2] [AV.nilp] (rT zd)
 |false=>
  refine oU hF fun hF=>?_;refine oZ (n2 ?_);refine oG fun n8=>W.r ?_;refine oA 5 t0 ?_;obtain⟨t6,e9,hF⟩:=z3 hF;refine WL.val (d:=(some 6)) (v:=.agg t6) (h':=h_4) (by kernel_rfl) (by kernel_rfl) (z1e9 (by kernel_rfl) e9) ?_;refine oK 7 hF fun v7 h_10 hF=>?_;refine oA 2 v7 ?_;refine oV [(2,v7)] (n8 (oY ?_));exact lZ hF [.tmp 2] [v7] (rT zd)
noncomputable def z101(call:zc)(_:Nat)(t0:AV)(h:AHeap):R:=callN (call 61 [t0] h) fun r4 h_4=>obind (z23 r4) fun t4=>ifB t4 (some (.ret (.bool false),h_4)) (obind (z74 t0) fun t6=>obind (z49 1 t6) fun t7=>obind (z7 h_4 t7) fun v8=>obind (z23 v8) fun t8=>lett (!t8) fun (t9:Bool)=>ifB t9 (obind (z74 t0) fun t11=>obind (z49 0 t11) fun t12=>obind (z7 h_4 t12) fun v13=>obind (z74 v13) fun t14=>obind (z49 0 t14) fun t15=>obind (z7 h_4 t15) fun v16=>obind (z23 v16) fun t16=>some (.ret (.bool t16),h_4)) (obind (z74 t0) fun t18=>obind (z49 2 t18) fun t19=>obind (z7 h_4 t19) fun v20=>obind (avInt .u64 v20) fun t20=>obind (z74 t0) fun t22=>obind (z49 0 t22) fun t23=>obind (z7 h_4 t23) fun v24=>obind (z74 v24) fun t25=>obind (z49 2 t25) fun t26=>obind (z7 h_4 t26) fun v27=>obind (avInt .u64 v27) fun t27=>lett (z3ba .u64 t20 t27) fun (t28:Int)=>lett ((t28:Int) != 0) fun (t29:Bool)=>some (.ret (.bool t29),h_4)))
set_option maxHeartbeats 4000000 in
set_option maxRecDepth 20000 in
theorem z2b3{call:zc}(hc:SaysAll Tryd.prog call){n:Nat}{t0:AV}{h:AHeap}{rR:ARes}{hR:AHeap}(hF:z101 call n t0 h=some (rR,hR)):Says Tryd.prog 41 [t0] h rR hR:=by
 unfold z101 at hF;refine sO Tryd.func41 fun w0 m0=>?_;refine wW [(0,t0)] ?_;refine oG fun n1=>W.r ?_;refine oA 2 (.bool false) ?_;refine oV [(0,t0)] (n1 ?_);refine oH fun n2 q2=>?_;refine oG fun n3=>W.r ?_;refine oA 3 t0 ?_;refine oCb hc 4 hF fun t4 h_4 hF=>?_;refine oV [(0,t0),(4,.bool t4)] (n3 ?_)
 cases t4 with
 |true=>
  refine oT hF fun hF=>?_;refine oG fun n7=>W.r ?_;refine oA 2 (.bool false) ?_;refine oV [(2,.bool false)] (n7 (oY (q2 ?_)));exact lZ hF [.tmp 2] [.bool false] (rT zd)
 |false=>
  refine oU hF fun hF=>?_;refine oZ (n2 ?_);refine oH fun n8 q8=>?_;refine oG fun n9=>W.r ?_;refine oA 5 t0 ?_;refine oC0 6 hF fun t6 hF=>?_;refine oF 7 93 1 hF fun t7 hF=>?_;refine oLb 8 4 hF fun t8 hF=>?_;refine oB 9 hF fun t9 hF=>?_;refine oV [(0,t0),(9,.bool t9)] (n9 ?_)
  cases t9 with
  |true=>
   refine oT hF fun hF=>?_;refine oG fun n15=>W.r ?_;refine oA 10 t0 ?_;refine oC0 11 hF fun t11 hF=>?_;refine oF 12 93 0 hF fun t12 hF=>?_;refine oL 13 47 hF fun v13 hF=>?_;refine oC0 14 hF fun t14 hF=>?_;refine oF 15 86 0 hF fun t15 hF=>?_;refine oLb 16 4 hF fun t16 hF=>?_;refine oA 2 (.bool t16) ?_;refine oV [(2,.bool t16)] (n15 (oY (q8 ?_)));exact lZ hF [.tmp 2] [.bool t16] (rT zd)
  |false=>
   refine oU hF fun hF=>?_;refine oZ (n8 ?_);refine oG fun n23=>?_;refine y21 (by kernel_rfl) (hc.ok w0) (plan:=[0,1,2,3,4,5,6,7,8,9,10,11,12,13]) (by kernel_rfl) (by kernel_rfl) (by kernel_rfl) ?_;refine WD.a 0 (some 17) t0 h_4 ?_;obtain⟨t18,e24,hF⟩:=z3 hF;refine WD.b 0 (some 18) t18 h_4 (z2c (h:=h_4) e24) ?_;obtain⟨t19,e25,hF⟩:=z3 hF;refine WD.b 0 (some 19) t19 h_4 (z1b (P:=Tryd.prog) (h:=h_4) (s:=93) (f:=2) (by kernel_rfl) e25) ?_
   replace hF:=z3 hF;obtain⟨v20,e26,hF⟩:=hF
   replace hF:=z3 hF;obtain⟨t20,c27,hF⟩:=hF
   have c27:=z17 c27;subst c27;refine WD.b 1 (some 20) (.int .u64 t20) h_4 (z14 (P:=Tryd.prog) (h:=h_4) (t:=63) (by kernel_rfl) e26) ?_;refine WD.a 0 (some 21) t0 h_4 ?_;obtain⟨t22,e28,hF⟩:=z3 hF;refine WD.b 0 (some 22) t22 h_4 (z2c (h:=h_4) e28) ?_;obtain⟨t23,e29,hF⟩:=z3 hF;refine WD.b 0 (some 23) t23 h_4 (z1b (P:=Tryd.prog) (h:=h_4) (s:=93) (f:=0) (by kernel_rfl) e29) ?_;obtain⟨v24,e30,hF⟩:=z3 hF;refine WD.b 1 (some 24) v24 h_4 (z14 (P:=Tryd.prog) (h:=h_4) (t:=47) (by kernel_rfl) e30) ?_;obtain⟨t25,e31,hF⟩:=z3 hF;refine WD.b 0 (some 25) t25 h_4 (z2c (h:=h_4) e31) ?_;obtain⟨t26,e32,hF⟩:=z3 hF;refine WD.b 0 (some 26) t26 h_4 (z1b (P:=Tryd.prog) (h:=h_4) (s:=86) (f:=2) (by kernel_rfl) e32) ?_
   replace hF:=z3 hF;obtain⟨v27,e33,hF⟩:=hF
   replace hF:=z3 hF;obtain⟨t27,c34,hF⟩:=hF
   have c34:=z17 c34;subst c34;refine WD.b 1 (some 27) (.int .u64 t27) h_4 (z14 (P:=Tryd.prog) (h:=h_4) (t:=63) (by kernel_rfl) e33) ?_;obtain⟨t28,e35,hF⟩:=z9 hF;refine WD.val (d:=(some 28)) (v:=.int .u64 t28) (h':=h_4) (by kernel_rfl) (by kernel_rfl) (z108 (AV.int .u64) e35 (by kernel_rfl)) (k:=0) (by kernel_rfl) (fun e=>absurd e (by decide)) (by decide) ?_;obtain⟨t29,e36,hF⟩:=z9 hF;refine WD.val (d:=(some 29)) (v:=.bool t29) (h':=h_4) (by kernel_rfl) (by kernel_rfl) (z108 AV.bool e36 (by kernel_rfl)) (k:=0) (by kernel_rfl) (fun e=>absurd e (by decide)) (by decide) ?_;refine WD.a 0 (some 2) (.bool t29) h_4 ?_;refine WD.nil ?_;refine gW [(2,.bool t29)] (n23 (oY ?_));exact lZ hF [.tmp 2] [.bool t29] (rT zd)
noncomputable def z102(call:zc)(_:Nat)(t0:AV)(h:AHeap):R:=callN (call 61 [t0] h) fun r4 h_4=>obind (z23 r4) fun t4=>ifB t4 (some (.ret (.bool true),h_4)) (obind (z74 t0) fun t6=>obind (z49 1 t6) fun t7=>obind (z7 h_4 t7) fun v8=>obind (z23 v8) fun t8=>lett (!t8) fun (t9:Bool)=>ifB t9 (obind (z74 t0) fun t11=>obind (z49 0 t11) fun t12=>obind (z7 h_4 t12) fun v13=>obind (z74 v13) fun t14=>obind (z49 0 t14) fun t15=>obind (z7 h_4 t15) fun v16=>obind (z23 v16) fun t16=>lett (!t16) fun (t17:Bool)=>lett (fun (t27:Bool) (h_24:AHeap)=>some (.ret (.bool t27),h_24)) fun j27=>ifB t17 (obind (z74 t0) fun t20=>obind (z49 0 t20) fun t21=>obind (z7 h_4 t21) fun v22=>obind (z74 v22) fun t23=>obind (z49 1 t23) fun t24=>obind (z7 h_4 t24) fun v25=>obind (avInt .u64 v25) fun t25=>lett ((t25:Int) == 0) fun (t26:Bool)=>j27 t26 h_4) (j27 false h_4)) (obind (z74 t0) fun t29=>obind (z49 2 t29) fun t30=>obind (z7 h_4 t30) fun v31=>obind (avInt .u64 v31) fun t31=>lett ((t31:Int) == 0) fun (t32:Bool)=>some (.ret (.bool t32),h_4)))
set_option maxHeartbeats 4000000 in
set_option maxRecDepth 20000 in
theorem z2b4{call:zc}(hc:SaysAll Tryd.prog call){n:Nat}{t0:AV}{h:AHeap}{rR:ARes}{hR:AHeap}(hF:z102 call n t0 h=some (rR,hR)):Says Tryd.prog 40 [t0] h rR hR:=by
 unfold z102 at hF;refine sO Tryd.func40 fun w0 m0=>?_;refine wW [(0,t0)] ?_;refine oG fun n1=>W.r ?_;refine oA 2 (.bool false) ?_;refine oV [(0,t0)] (n1 ?_);refine oH fun n2 q2=>?_;refine oG fun n3=>W.r ?_;refine oA 3 t0 ?_;refine oCb hc 4 hF fun t4 h_4 hF=>?_;refine oV [(0,t0),(4,.bool t4)] (n3 ?_)
 cases t4 with
 |true=>
  refine oT hF fun hF=>?_;refine oG fun n7=>W.r ?_;refine oA 2 (.bool true) ?_;refine oV [(2,.bool true)] (n7 (oY (q2 ?_)));exact lZ hF [.tmp 2] [.bool true] (rT zd)
 |false=>
  refine oU hF fun hF=>?_;refine oZ (n2 ?_);refine oH fun n8 q8=>?_;refine oG fun n9=>W.r ?_;refine oA 5 t0 ?_;refine oC0 6 hF fun t6 hF=>?_;refine oF 7 93 1 hF fun t7 hF=>?_;refine oLb 8 4 hF fun t8 hF=>?_;refine oB 9 hF fun t9 hF=>?_;refine oV [(0,t0),(9,.bool t9)] (n9 ?_)
  cases t9 with
  |true=>
   refine oT hF fun hF=>?_;refine W.s (fun K15 n15 e15 q15 p15=>?_);refine W.r ?_;refine oA 10 t0 ?_;refine oC0 11 hF fun t11 hF=>?_;refine oF 12 93 0 hF fun t12 hF=>?_;refine oL 13 47 hF fun v13 hF=>?_;refine oC0 14 hF fun t14 hF=>?_;refine oF 15 86 0 hF fun t15 hF=>?_;refine oLb 16 4 hF fun t16 hF=>?_;refine oB 17 hF fun t17 hF=>?_;refine oA 18 (.bool t17) ?_;obtain⟨j27,e25,hF⟩:=z9 hF
   have J26:∀(t27:Bool) (h_24:AHeap),j27 t27 h_24=some (rR,hR)→WL Tryd.prog w0 m0 (Func.ntmps Tryd.f40) (Code.ops (y4 (y4 (y3 (y4 (y3 (y3 (z55 Tryd.f40)))))))) 18 K15 [(27,.bool t27)] [] h_24:=by
    intro t27 h_24 hF;rw[e25] at hF;refine oA 2 (.bool t27) ?_;refine oV [(2,.bool t27)] (n15 (oY (q8 ?_)));exact lZ hF [.tmp 2] [.bool t27] (rT zd)
   cases t17 with
   |true=>
    replace hF:=zc3 hF
    refine oA 19 t0 ?_;refine oC0 20 hF fun t20 hF=>?_;refine oF 21 93 0 hF fun t21 hF=>?_;refine oL 22 47 hF fun v22 hF=>?_;refine oC0 23 hF fun t23 hF=>?_;refine oF 24 86 1 hF fun t24 hF=>?_;refine oLi 25 63 hF fun t25 hF=>?_;refine oB 26 hF fun t26 hF=>?_;refine oA 27 (.bool t26) ?_;exact lW _ (J26 _ _ hF)
   |false=>
    replace hF:=zc4 hF
    refine WL.o (some 19) ?_;refine WL.o (some 20) ?_;refine WL.o (some 21) ?_;refine WL.o (some 22) ?_;refine WL.o (some 23) ?_;refine WL.o (some 24) ?_;refine WL.o (some 25) ?_;refine WL.o (some 26) ?_;refine oA 27 (.bool false) ?_;exact lW _ (J26 _ _ hF)
  |false=>
   refine oU hF fun hF=>?_;refine oZ (n8 ?_);refine oG fun n35=>W.r ?_;refine oA 28 t0 ?_;refine oC0 29 hF fun t29 hF=>?_;refine oF 30 93 2 hF fun t30 hF=>?_;refine oLi 31 63 hF fun t31 hF=>?_;refine oB 32 hF fun t32 hF=>?_;refine oA 2 (.bool t32) ?_;refine oV [(2,.bool t32)] (n35 (oY ?_));exact lZ hF [.tmp 2] [.bool t32] (rT zd)
noncomputable def z100(call:zc)(_:Nat)(t0:AV)(t1:Int)(h:AHeap):R:=callN (call 61 [t0] h) fun r6 h_3=>obind (z23 r6) fun t6=>ifB t6 (some (.ret (.tup []),h_3)) (obind (z74 t0) fun t8=>obind (z49 0 t8) fun t9=>obind (z7 h_3 t9) fun v10=>obind (z74 v10) fun t11=>obind (z49 1 t11) fun t12=>obind (z7 h_3 t12) fun v13=>obind (avInt .u64 v13) fun t13=>obind (z74 t0) fun t15=>obind (z49 1 t15) fun t16=>obind (z7 h_3 t16) fun v17=>obind (z23 v17) fun t17=>lett (fun (t4:Int) (h_21:AHeap)=>obind (z74 t0) fun t28=>obind (z49 1 t28) fun t29=>obind (z15 h_21 1 [.bool true] t29) fun h_25=>obind (z74 t0) fun t33=>obind (z49 0 t33) fun t34=>obind (z7 h_25 t34) fun v35=>obind (z74 v35) fun t37=>obind (z49 67 t37) fun t38=>obind (z313 256 1 t38 t1) fun t39=>obind (z7 h_25 t39) fun v40=>obind (avInt .u64 v40) fun t40=>lett (z3ba .u64 t4 t40) fun (t41:Int)=>obind (z74 t0) fun t42=>obind (z49 2 t42) fun t43=>obind (z15 h_25 1 [.int .u64 t41] t43) fun h_38=>some (.ret (.tup []),h_38)) fun k20=>ifB t17 (obind (z74 t0) fun t19=>obind (z49 0 t19) fun t20=>obind (z7 h_3 t20) fun v21=>obind (z74 t0) fun t23=>obind (z49 2 t23) fun t24=>obind (z7 h_3 t24) fun v25=>obind (avInt .u64 v25) fun t25=>callN (call 62 [v21,.int .u64 t25] h_3) fun r26 h_47=>obind (avInt .u64 r26) fun t26=>k20 t26 h_47) (k20 t13 h_3))
set_option maxHeartbeats 4000000 in
set_option maxRecDepth 20000 in
theorem z2b2{call:zc}(hc:SaysAll Tryd.prog call){n:Nat}{t0:AV}{t1:Int}{h:AHeap}{rR:ARes}{hR:AHeap}(hF:z100 call n t0 t1 h=some (rR,hR)):Says Tryd.prog 39 [t0,.int .u8 t1] h rR hR:=by
 unfold z100 at hF;refine sO Tryd.func39 fun w0 m0=>?_;refine wW [(0,t0),(1,.int .u8 t1)] ?_;refine oH fun n1 q1=>?_;refine oG fun n2=>W.r ?_;refine oA 5 t0 ?_;refine oCb hc 6 hF fun t6 h_3 hF=>?_;refine oV [(0,t0),(1,.int .u8 t1),(6,.bool t6)] (n2 ?_)
 cases t6 with
 |true=>
  refine oT hF fun hF=>?_;refine oY (q1 ?_);exact lZ hF [] [] zd
 |false=>
  refine oU hF fun hF=>?_;refine oZ (n1 ?_);refine oG fun n6=>W.r ?_;refine oA 7 t0 ?_;refine oC0 8 hF fun t8 hF=>?_;refine oF 9 93 0 hF fun t9 hF=>?_;refine oL 10 47 hF fun v10 hF=>?_;refine oC0 11 hF fun t11 hF=>?_;refine oF 12 86 1 hF fun t12 hF=>?_;refine oLi 13 63 hF fun t13 hF=>?_;refine oA 4 (.int .u64 t13) ?_;refine oV [(0,t0),(1,.int .u8 t1),(4,.int .u64 t13)] (n6 ?_);refine W.s (fun K14 n14 e14 q14 p14=>?_);refine oG fun n15=>W.r ?_;refine oA 14 t0 ?_;refine oC0 15 hF fun t15 hF=>?_;refine oF 16 93 1 hF fun t16 hF=>?_;refine oLb 17 4 hF fun t17 hF=>?_;refine oV [(0,t0),(1,.int .u8 t1),(4,.int .u64 t13),(17,.bool t17)] (n15 ?_);obtain⟨k20,e20,hF⟩:=z9 hF
  have J20:∀(t4:Int) (h_21:AHeap),k20 t4 h_21=some (rR,hR)→Go w0 m0 (Func.ntmps Tryd.f39) (K14 .normal) [(0,t0),(1,.int .u8 t1),(4,.int .u64 t4)] [] h_21:=by
   intro t4 h_21 hF;rw[e20] at hF;refine n14 ?_;refine oG fun n22=>W.r ?_;refine oA 27 t0 ?_;refine oC0 28 hF fun t28 hF=>?_;refine oF 29 93 1 hF fun t29 hF=>?_;refine oW 4 (.bool true) hF fun h_25 hF=>?_;refine oV [(0,t0),(1,.int .u8 t1),(4,.int .u64 t4)] (n22 (W.r ?_));refine oA 30 t0 ?_;refine oA 31 (.int .u64 t4) ?_;refine oA 32 t0 ?_;refine oC0 33 hF fun t33 hF=>?_;refine oF 34 93 0 hF fun t34 hF=>?_;refine oL 35 47 hF fun v35 hF=>?_;refine oA 36 (.int .u8 t1) ?_;refine oC0 37 hF fun t37 hF=>?_;refine oF 38 86 4 hF fun t38 hF=>?_;refine oQ 39 84 63 .u8 hF fun t39 hF=>?_;refine oLi 40 63 hF fun t40 hF=>?_;refine oI 41 .u64 hF fun t41 hF=>?_;refine oC0 42 hF fun t42 hF=>?_;refine oF 43 93 2 hF fun t43 hF=>?_;refine oW 63 (.int .u64 t41) hF fun h_38 hF=>?_;refine oV [] ?_;exact lY hF [] [] zd
  cases t17 with
  |true=>
   refine oT hF fun hF=>?_;refine y21 (by kernel_rfl) (hc.ok w0) (plan:=[0,1,2,3,4,5,6,7,8,9]) (by kernel_rfl) (by kernel_rfl) (by kernel_rfl) ?_;refine WD.a 0 (some 18) t0 h_3 ?_;obtain⟨t19,e40,hF⟩:=z3 hF;refine WD.b 0 (some 19) t19 h_3 (z2c (h:=h_3) e40) ?_;obtain⟨t20,e41,hF⟩:=z3 hF;refine WD.b 0 (some 20) t20 h_3 (z1b (P:=Tryd.prog) (h:=h_3) (s:=93) (f:=0) (by kernel_rfl) e41) ?_;obtain⟨v21,e42,hF⟩:=z3 hF;refine WD.b 1 (some 21) v21 h_3 (z14 (P:=Tryd.prog) (h:=h_3) (t:=47) (by kernel_rfl) e42) ?_;refine WD.a 0 (some 22) t0 h_3 ?_;obtain⟨t23,e43,hF⟩:=z3 hF;refine WD.b 0 (some 23) t23 h_3 (z2c (h:=h_3) e43) ?_;obtain⟨t24,e44,hF⟩:=z3 hF;refine WD.b 0 (some 24) t24 h_3 (z1b (P:=Tryd.prog) (h:=h_3) (s:=93) (f:=2) (by kernel_rfl) e44) ?_
   replace hF:=z3 hF;obtain⟨v25,e45,hF⟩:=hF
   replace hF:=z3 hF;obtain⟨t25,c46,hF⟩:=hF
   have c46:=z17 c46;subst c46;refine WD.b 1 (some 25) (.int .u64 t25) h_3 (z14 (P:=Tryd.prog) (h:=h_3) (t:=63) (by kernel_rfl) e45) ?_
   replace hF:=z4d hF;obtain⟨r26,h_47,e48,hF⟩:=hF
   replace hF:=z3 hF;obtain⟨t26,c49,hF⟩:=hF
   have c49:=z17 c49;subst c49;refine WD.call (d:=(some 26)) (by kernel_rfl) (by kernel_rfl) (by kernel_rfl) e48 (k:=2) (by kernel_rfl) (fun _=>(by kernel_rfl)) (by decide) ?_;refine WD.a 0 (some 4) (.int .u64 t26) h_47 ?_;refine WD.nil ?_;refine gW [(0,t0),(1,.int .u8 t1),(4,.int .u64 t26)] ?_;exact gW _ (J20 _ _ hF)
  |false=>
   refine oU hF fun hF=>?_;refine oZ ?_;exact gW _ (J20 _ _ hF)
noncomputable def zff(_:zc)(_:Nat)(t0:AV)(h:AHeap):R:=outK (ze4 Tryd.prog h .eql 120 true (some t0) (some AV.nilp)) fun v4 h_3=>obind (z23 v4) fun t4=>lett (fun (t11:Bool) (h_6:AHeap)=>some (.ret (.bool t11),h_6)) fun j11=>ifB t4 (j11 true h_3) (obind (z74 t0) fun t7=>obind (z49 0 t7) fun t8=>obind (z7 h_3 t8) fun v9=>outK (ze4 Tryd.prog h_3 .eql 47 true (some v9) (some AV.nilp)) fun v10 h_12=>obind (z23 v10) fun t10=>j11 t10 h_12)
set_option maxHeartbeats 4000000 in
set_option maxRecDepth 20000 in
theorem z2b1{call:zc}(_:SaysAll Tryd.prog call){n:Nat}{t0:AV}{h:AHeap}{rR:ARes}{hR:AHeap}(hF:zff call n t0 h=some (rR,hR)):Says Tryd.prog 61 [t0] h rR hR:=by
 unfold zff at hF;refine sO Tryd.func61 fun w0 m0=>?_;refine wW [(0,t0)] ?_;refine oG fun n1=>W.r ?_;refine oA 2 (.bool false) ?_;refine oV [(0,t0)] (n1 ?_);refine W.s (fun K2 n2 e2 q2 p2=>?_);refine W.r ?_;refine oA 3 t0 ?_
 replace hF:=z3c hF;obtain⟨v4,h_3,e4,hF⟩:=hF
 replace hF:=z3 hF;obtain⟨t4,c5,hF⟩:=hF
 have c5:=z57 c5;subst c5;refine WL.b (some 4) (.bool t4) h_3 e4 ?_;refine oA 5 (.bool t4) ?_;obtain⟨j11,e7,hF⟩:=z9 hF
 have J8:∀(t11:Bool) (h_6:AHeap),j11 t11 h_6=some (rR,hR)→WL Tryd.prog w0 m0 (Func.ntmps Tryd.f61) (Code.ops (y4 (y3 (z55 Tryd.f61)))) 9 K2 [(11,.bool t11)] [] h_6:=by
  intro t11 h_6 hF;rw[e7] at hF;refine oA 2 (.bool t11) ?_;refine oV [(2,.bool t11)] (n2 (oY ?_));exact lZ hF [.tmp 2] [.bool t11] (rT zd)
 cases t4 with
 |true=>
  replace hF:=zc3 hF
  refine WL.o (some 6) ?_;refine WL.o (some 7) ?_;refine WL.o (some 8) ?_;refine WL.o (some 9) ?_;refine WL.o (some 10) ?_;refine oA 11 (.bool true) ?_;exact lW _ (J8 _ _ hF)
 |false=>
  replace hF:=zc4 hF
  refine oA 6 t0 ?_;refine oC0 7 hF fun t7 hF=>?_;refine oF 8 93 0 hF fun t8 hF=>?_;refine oL 9 47 hF fun v9 hF=>?_
  replace hF:=z3c hF;obtain⟨v10,h_12,e13,hF⟩:=hF
  replace hF:=z3 hF;obtain⟨t10,c14,hF⟩:=hF
  have c14:=z57 c14;subst c14;refine WL.b (some 10) (.bool t10) h_12 e13 ?_;refine oA 11 (.bool t10) ?_;exact lW _ (J8 _ _ hF)
noncomputable def zc7(call:zc)(t0:AV)(k5:Int→AHeap→R)(self:Int→Int→AHeap→R)(t1_9:Int)(t5_10:Int)(h_11:AHeap):R:=lett ((t1_9:Int) != 0) fun (t7:Bool)=>ifB t7 (obind (z74 t0) fun t16=>obind (z49 3 t16) fun t17=>callN (call 79 [.int .u64 t1_9] h_11) fun r15 h_19=>obind (avInt .i64 r15) fun t15=>obind (z313 64 1 t17 t15) fun t18=>obind (z7 h_19 t18) fun v19=>obind (avInt .u64 v19) fun t19=>lett (orI .u64 t5_10 t19) fun (t20:Int)=>lett (IntKind.u64.wrap (t1_9 - 1)) fun (t10:Int)=>lett (z3ba .u64 t1_9 t10) fun (t11:Int)=>self t11 t20 h_19) (k5 t5_10 h_11)
noncomputable def za1(call:zc)(t0:AV)(k5:Int→AHeap→R):Nat→Int→Int→AHeap→R:=ze6 (fun _ _ _=>none) (zc7 call t0 k5)
theorem z14e(call:zc)(t0:AV)(k5:Int→AHeap→R)(m:Nat):za1 call t0 k5 (m+1)=zc7 call t0 k5 (za1 call t0 k5 m):=rfl
noncomputable def zbe(call:zc)(n:Nat)(t0:AV)(t1:Int)(h:AHeap):R:=lett (fun (t5:Int) (h_6:AHeap)=>some (.ret (.int .u64 t5),h_6)) fun k5=>za1 call t0 k5 n t1 0 h
set_option maxHeartbeats 4000000 in
set_option maxRecDepth 20000 in
theorem z259{call:zc}(hc:SaysAll Tryd.prog call){n:Nat}{t0:AV}{t1:Int}{h:AHeap}{rR:ARes}{hR:AHeap}(hF:zbe call n t0 t1 h=some (rR,hR)):Says Tryd.prog 62 [t0,.int .u64 t1] h rR hR:=by
 unfold zbe at hF;refine sO Tryd.func62 fun w0 m0=>?_;refine wW [(0,t0),(1,.int .u64 t1)] ?_;refine oG fun n1=>W.r ?_;refine oA 4 (.int .u64 0) ?_;refine oV [(0,t0),(1,.int .u64 t1)] (n1 ?_);refine oG fun n2=>W.r ?_;refine oA 5 (.int .u64 0) ?_;refine oV [(0,t0),(1,.int .u64 t1),(5,.int .u64 0)] (n2 ?_);refine W.s (fun K3 n3 e3 q3 p3=>?_);obtain⟨k5,e5,hF⟩:=z9 hF
 have J5:∀(t5:Int) (h_6:AHeap),k5 t5 h_6=some (rR,hR)→Go w0 m0 (Func.ntmps Tryd.f62) (K3 .normal) [(5,.int .u64 t5)] [] h_6:=by
  intro t5 h_6 hF;rw[e5] at hF;refine n3 ?_;refine oG fun n7=>W.r ?_;refine oA 21 (.int .u64 t5) ?_;refine oA 4 (.int .u64 t5) ?_;refine oV [(4,.int .u64 t5)] (n7 (oY ?_));exact lZ hF [.tmp 4] [.int .u64 t5] (rT zd)
 refine yc (by kernel_rfl) (fun K4 n4 s4 o4 q4 p4=>?_);refine y14 (by kernel_rfl) (fun I8 K8 b8 n8 e8 q8 p8=>?_)
 have L8:∀(m:Nat) (t1_9:Int) (t5_10:Int) (h_11:AHeap),za1 call t0 k5 m t1_9 t5_10 h_11=some (rR,hR)→Go w0 m0 (Func.ntmps Tryd.f62) I8 [(0,t0),(1,.int .u64 t1_9),(5,.int .u64 t5_10)] [] h_11:=by
  intro m
  induction m with
  |zero=>intro t1_9 t5_10 h_11 hF;cases hF
  |succ m ih8=>
   intro t1_9 t5_10 h_11 hF;rw[z14e] at hF;unfold zc7 at hF;refine b8 ?_;refine W.s (fun K12 n12 e12 q12 p12=>?_);refine oG fun n13=>W.r ?_;refine oA 6 (.int .u64 t1_9) ?_;refine oB 7 hF fun t7 hF=>?_;refine oV [(0,t0),(1,.int .u64 t1_9),(5,.int .u64 t5_10),(7,.bool t7)] (n13 ?_)
   cases t7 with
   |true=>
    refine oT hF fun hF=>?_;refine oZ (n12 ?_);refine oG fun n15=>?_;refine yc (by kernel_rfl) (fun K16 n16 s16 o16 q16 p16=>?_);refine y21 (by kernel_rfl) (hc.ok w0) (plan:=[0,1,2,4,5,3,6,7,8,9]) (by kernel_rfl) (by kernel_rfl) (by kernel_rfl) ?_;refine WD.a 0 (some 12) (.int .u64 t5_10) h_11 ?_;refine WD.a 0 (some 13) t0 h_11 ?_;refine WD.a 0 (some 14) (.int .u64 t1_9) h_11 ?_;obtain⟨t16,e17,hF⟩:=z3 hF;refine WD.b 0 (some 16) t16 h_11 (z2c (h:=h_11) e17) ?_;obtain⟨t17,e18,hF⟩:=z3 hF;refine WD.b 0 (some 17) t17 h_11 (z1b (P:=Tryd.prog) (h:=h_11) (s:=86) (f:=3) (by kernel_rfl) e18) ?_
    replace hF:=z4d hF;obtain⟨r15,h_19,e20,hF⟩:=hF
    replace hF:=z3 hF;obtain⟨t15,c21,hF⟩:=hF
    have c21:=z17 c21;subst c21;refine WD.call (d:=(some 15)) (by kernel_rfl) (by kernel_rfl) (by kernel_rfl) e20 (k:=2) (by kernel_rfl) (fun _=>(by kernel_rfl)) (by decide) ?_;obtain⟨t18,e22,hF⟩:=z3 hF;refine WD.b 0 (some 18) t18 h_19 (zec (P:=Tryd.prog) (h:=h_19) (t:=83) (e':=63) (k:=.i64) (by kernel_rfl) (by kernel_rfl) (by kernel_rfl) e22) ?_
    replace hF:=z3 hF;obtain⟨v19,e23,hF⟩:=hF
    replace hF:=z3 hF;obtain⟨t19,c24,hF⟩:=hF
    have c24:=z17 c24;subst c24;refine WD.b 1 (some 19) (.int .u64 t19) h_19 (z14 (P:=Tryd.prog) (h:=h_19) (t:=63) (by kernel_rfl) e23) ?_;obtain⟨t20,e25,hF⟩:=z9 hF;refine WD.val (d:=(some 20)) (v:=.int .u64 t20) (h':=h_19) (by kernel_rfl) (by kernel_rfl) (z108 (AV.int .u64) e25 (by kernel_rfl)) (k:=0) (by kernel_rfl) (fun e=>absurd e (by decide)) (by decide) ?_;refine WD.val (d:=(some 5)) (v:=.int .u64 t20) (h':=h_19) (by kernel_rfl) (by kernel_rfl) (by kernel_rfl) (k:=2) (by kernel_rfl) (fun _=>(by kernel_rfl)) (by decide) ?_;refine WD.nil ?_;refine gW [(0,t0),(1,.int .u64 t1_9),(5,.int .u64 t20)] (n16 (n15 (W.r ?_)));refine oA 8 (.int .u64 t1_9) ?_;refine oA 9 (.int .u64 t1_9) ?_;refine oI 10 .u64 hF fun t10 hF=>?_;refine oI 11 .u64 hF fun t11 hF=>?_;refine oA 1 (.int .u64 t11) ?_;refine oV [(0,t0),(1,.int .u64 t11),(5,.int .u64 t20)] (n8 ?_);exact gW _ (ih8 _ _ _ hF)
   |false=>
    refine oU hF fun hF=>?_;refine W.exit (by kernel_rfl) ?_;refine e12 (e8 ?_);refine s4 (by kernel_rfl) ?_;exact gW _ (J5 _ _ hF)
 exact gW _ (L8 _ _ _ _ hF)
noncomputable def z2d(_:zc)(_:Nat)(t0:Int)(h:AHeap):R:=lett ((t0:Int) == 0) fun (t4:Bool)=>ifB t4 (some (.ret (.int .i64 64),h)) (lett (IntKind.u64.wrap (0 - t0)) fun (t7:Int)=>lett (z3ba .u64 t0 t7) fun (t8:Int)=>lett (IntKind.u64.wrap (t8*285870213051353865)) fun (t9:Int)=>obind (shrI .u64 t9 58) fun t10=>obind (z313 64 1 (AV.gptr 0 0) t10) fun t11=>obind (z7 h t11) fun v12=>obind (avInt .u8 v12) fun t12=>lett (IntKind.i64.wrap t12) fun (t13:Int)=>some (.ret (.int .i64 t13),h))
set_option maxHeartbeats 4000000 in
set_option maxRecDepth 20000 in
theorem z13d{call:zc}(_:SaysAll Tryd.prog call){n:Nat}{t0:Int}{h:AHeap}{rR:ARes}{hR:AHeap}(hF:z2d call n t0 h=some (rR,hR)):Says Tryd.prog 79 [.int .u64 t0] h rR hR:=by
 unfold z2d at hF;refine sO Tryd.func79 fun w0 m0=>?_;refine wW [(0,.int .u64 t0)] ?_;refine oG fun n1=>W.r ?_;refine oA 2 (.int .i64 0) ?_;refine oV [(0,.int .u64 t0)] (n1 ?_);refine oH fun n2 q2=>?_;refine oG fun n3=>W.r ?_;refine oA 3 (.int .u64 t0) ?_;refine oB 4 hF fun t4 hF=>?_;refine oV [(0,.int .u64 t0),(4,.bool t4)] (n3 ?_)
 cases t4 with
 |true=>
  refine oT hF fun hF=>?_;refine oG fun n5=>W.r ?_;refine oA 2 (.int .i64 64) ?_;refine oV [(2,.int .i64 64)] (n5 (oY (q2 ?_)));exact lZ hF [.tmp 2] [.int .i64 64] (rT zd)
 |false=>
  refine oU hF fun hF=>?_;refine oZ (n2 ?_);refine oG fun n6=>W.r ?_;refine oA 5 (.int .u64 t0) ?_;refine oA 6 (.int .u64 t0) ?_;refine oI 7 .u64 hF fun t7 hF=>?_;refine oI 8 .u64 hF fun t8 hF=>?_;refine oI 9 .u64 hF fun t9 hF=>?_;obtain⟨t10,e10,hF⟩:=z3 hF;refine WL.b (some 10) (.int .u64 t10) h (z3cb (P:=Tryd.prog) (h:=h) (t:=63) (k':=.u64) (lit:=true) e10) ?_;refine oQ 11 140 5 .u64 hF fun t11 hF=>?_;refine oLi 12 5 hF fun t12 hF=>?_;refine oI 13 .i64 hF fun t13 hF=>?_;refine oA 2 (.int .i64 t13) ?_;refine oV [(2,.int .i64 t13)] (n6 (oY ?_));exact lZ hF [.tmp 2] [.int .i64 t13] (rT zd)
noncomputable def z95(call:zc)(t0:AV)(h_4:AHeap)(v44:AV)(t45:Int)(k83:AHeap→R)(self:Int→AHeap→R)(t46:Int)(h_92:AHeap):R:=lett (decide (t46<t45)) fun (t47:Bool)=>ifB t47 (obind (z1a8 6 v44 t46) fun t48=>obind (z16 h_92 6 t48) fun t49=>lett (newH h_92 68 [.int .i64 0,.int .u64 0,.int .u64 0,.int .u64 0,.int .u64 0,.nsl]) fun h_101=>obind (z15 h_101 6 t49 (z6 h_92)) fun h_103=>obind (z16 h_103 6 (z6 h_92)) fun t51=>callN (call 37 [t0,.agg t51] h_103) fun r52 h_107=>obind (z65 r52) fun t52=>lett (newH h_107 90 [.bool false,.int .u64 0,.int .u64 0]) fun h_110=>obind (z15 h_110 3 t52 (z6 h_107)) fun h_112=>obind (z7 h_112 (AV.ptr (AHeap.next h_4) 0)) fun v54=>obind (z23 v54) fun t54=>lett (fun (t58:Bool) (h_116:AHeap)=>obind (z7 h_116 (AV.ptr (AHeap.next h_4) 1)) fun v60=>obind (avInt .u64 v60) fun t60=>obind (z7 h_116 (AV.ptr (AHeap.next h_107) 1)) fun v62=>obind (avInt .u64 v62) fun t62=>lett (orI .u64 t60 t62) fun (t63:Int)=>obind (z7 h_116 (AV.ptr (AHeap.next h_4) 2)) fun v65=>obind (avInt .u64 v65) fun t65=>obind (z7 h_116 (AV.ptr (AHeap.next h_107) 2)) fun v67=>obind (avInt .u64 v67) fun t67=>lett (orI .u64 t65 t67) fun (t68:Int)=>obind (z15 h_116 3 ([.bool t58,.int .u64 t63,.int .u64 t68]:List AV) (z6 h_4)) fun h_129=>lett (IntKind.i64.wrap (t46+1)) fun (t70:Int)=>self t70 h_129) fun j58=>ifB t54 (j58 true h_112) (obind (z7 h_112 (AV.ptr (AHeap.next h_107) 0)) fun v57=>obind (z23 v57) fun t57=>j58 t57 h_112)) (k83 h_92)
noncomputable def z76(call:zc)(t0:AV)(h_4:AHeap)(v44:AV)(t45:Int)(k83:AHeap→R):Nat→Int→AHeap→R:=ze6 (fun _ _=>none) (z95 call t0 h_4 v44 t45 k83)
theorem z119(call:zc)(t0:AV)(h_4:AHeap)(v44:AV)(t45:Int)(k83:AHeap→R)(m:Nat):z76 call t0 h_4 v44 t45 k83 (m+1)=z95 call t0 h_4 v44 t45 k83 (z76 call t0 h_4 v44 t45 k83 m):=rfl
noncomputable def z96(call:zc)(t0:AV)(h_4:AHeap)(v26:AV)(t27:Int)(k36:AHeap→R)(self:Int→AHeap→R)(t28:Int)(h_45:AHeap):R:=
 lett (decide (t28<t27)) fun (t29:Bool)=>
 ifB t29
 (
  obind (z1a8 6 v26 t28) fun t30=>
  obind (z16 h_45 6 t30) fun t31=>
  lett (newH h_45 68 [.int .i64 0,.int .u64 0,.int .u64 0,.int .u64 0,.int .u64 0,.nsl]) fun h_54=>
  obind (z15 h_54 6 t31 (z6 h_45)) fun h_56=>
  obind (z16 h_56 3 (z6 h_4)) fun t33=>
  obind (z16 h_56 6 (z6 h_45)) fun t35=>
  callN (call 37 [t0,.agg t35] h_56) fun r36 h_60=>
  obind (z65 r36) fun t36=>
  chk (true&&(z135 Tryd.prog h_60 90 (z6 h_4) (.agg t33)&&true))<|
  callN (call 58 [t0,.agg t33,.agg t36] h_60) fun r37 h_64=>
  obind (z65 r37) fun t37=>
  obind (z15 h_64 3 t37 (z6 h_4)) fun h_67=>
  lett (IntKind.i64.wrap (t28+1)) fun (t38:Int)=>
  self t38 h_67)
 (
  k36 h_45)
noncomputable def z77(call:zc)(t0:AV)(h_4:AHeap)(v26:AV)(t27:Int)(k36:AHeap→R):Nat→Int→AHeap→R:=ze6 (fun _ _=>none) (z96 call t0 h_4 v26 t27 k36)
theorem z11a(call:zc)(t0:AV)(h_4:AHeap)(v26:AV)(t27:Int)(k36:AHeap→R)(m:Nat):z77 call t0 h_4 v26 t27 k36 (m+1)=z96 call t0 h_4 v26 t27 k36 (z77 call t0 h_4 v26 t27 k36 m):=rfl
noncomputable def z19(call:zc)(n:Nat)(t0:AV)(t1:List AV)(h:AHeap):R:=outK (z118 h 68 (some (.agg t1))) fun v3 h_2=>lett (newH h_2 90 [.bool false,.int .u64 0,.int .u64 0]) fun h_4=>obind (z49 0 v3) fun t14=>obind (z7 h_4 t14) fun v15=>obind (avInt .i64 v15) fun t15=>lett ((t15:Int) == 2) fun (t17:Bool)=>ifB t17 (obind (z49 1 v3) fun t19=>obind (z16 h_4 4 t19) fun t20=>callN (call 57 [t0,.agg t20] h_4) fun r21 h_17=>obind (z65 r21) fun t21=>obind (z15 h_17 3 t21 (z6 h_2)) fun h_20=>obind (z16 h_20 3 (z6 h_2)) fun w4=>some (.ret (.agg w4),h_20)) (lett ((t15:Int) == 3) fun (t23:Bool)=>ifB t23 (lett (newH h_4 90 [.bool false,.int .u64 0,.int .u64 0]) fun h_26=>obind (z15 h_26 3 ([.bool true,.int .u64 0,.int .u64 0]:List AV) (z6 h_4)) fun h_28=>obind (z49 5 v3) fun t25=>obind (z7 h_28 t25) fun v26=>obind (z17d v26) fun t27=>lett (fun (h_37:AHeap)=>obind (z16 h_37 3 (z6 h_4)) fun t39=>obind (z15 h_37 3 t39 (z6 h_2)) fun h_40=>obind (z16 h_40 3 (z6 h_2)) fun w4_43=>some (.ret (.agg w4_43),h_40)) fun k36=>z77 call t0 h_4 v26 t27 k36 n 0 h_28) (lett ((t15:Int) == 4) fun (t41:Bool)=>ifB t41 (lett (newH h_4 90 [.bool false,.int .u64 0,.int .u64 0]) fun h_73=>obind (z15 h_73 3 ([.bool false,.int .u64 0,.int .u64 0]:List AV) (z6 h_4)) fun h_75=>obind (z49 5 v3) fun t43=>obind (z7 h_75 t43) fun v44=>obind (z17d v44) fun t45=>lett (fun (h_84:AHeap)=>obind (z16 h_84 3 (z6 h_4)) fun t71=>obind (z15 h_84 3 t71 (z6 h_2)) fun h_87=>obind (z16 h_87 3 (z6 h_2)) fun w4_90=>some (.ret (.agg w4_90),h_87)) fun k83=>z76 call t0 h_4 v44 t45 k83 n 0 h_75) (lett ((t15:Int) == 5) fun (t73:Bool)=>lett (fun (t72:Bool) (h_138:AHeap)=>ifB t72 (obind (z49 5 v3) fun t76=>obind (z7 h_138 t76) fun v77=>obind (z1a8 6 v77 0) fun t78=>obind (z16 h_138 6 t78) fun t79=>callN (call 37 [t0,.agg t79] h_138) fun r80 h_144=>obind (z65 r80) fun t80=>lett (newH h_144 90 [.bool false,.int .u64 0,.int .u64 0]) fun h_147=>obind (z15 h_147 3 t80 (z6 h_144)) fun h_149=>obind (z7 h_149 (AV.ptr (AHeap.next h_144) 2)) fun v83=>obind (avInt .u64 v83) fun t83=>obind (z7 h_149 (AV.ptr (AHeap.next h_144) 1)) fun v85=>obind (avInt .u64 v85) fun t85=>callN (call 59 [t0,.int .u64 t83,.int .u64 t85] h_149) fun _ h_156=>obind (z7 h_156 (AV.ptr (AHeap.next h_144) 0)) fun v88=>obind (z23 v88) fun t88=>lett (fun (t93:Bool) (h_161:AHeap)=>obind (z15 h_161 1 [.bool t93] (AV.ptr (AHeap.next h_144) 0)) fun h_164=>obind (z16 h_164 3 (z6 h_144)) fun t95=>obind (z15 h_164 3 t95 (z6 h_2)) fun h_168=>obind (z16 h_168 3 (z6 h_2)) fun w4_171=>some (.ret (.agg w4_171),h_168)) fun j93=>ifB t88 (j93 true h_156) (obind (z49 0 v3) fun t90=>obind (z7 h_156 t90) fun v91=>obind (avInt .i64 v91) fun t91=>lett ((t91:Int) == 5) fun (t92:Bool)=>j93 t92 h_156)) (lett ((t15:Int) == 7) fun (t97:Bool)=>ifB t97 (obind (z49 5 v3) fun t99=>obind (z7 h_138 t99) fun v100=>obind (z1a8 6 v100 0) fun t101=>obind (z16 h_138 6 t101) fun t102=>callN (call 37 [t0,.agg t102] h_138) fun r103 h_183=>obind (z65 r103) fun t103=>lett (newH h_183 90 [.bool false,.int .u64 0,.int .u64 0]) fun h_186=>obind (z15 h_186 3 t103 (z6 h_183)) fun h_188=>obind (z15 h_188 1 [.bool true] (AV.ptr (AHeap.next h_183) 0)) fun h_191=>obind (z16 h_191 3 (z6 h_183)) fun t105=>obind (z15 h_191 3 t105 (z6 h_2)) fun h_195=>obind (z16 h_195 3 (z6 h_2)) fun w4_198=>some (.ret (.agg w4_198),h_195)) (obind (z15 h_138 3 ([.bool true,.int .u64 0,.int .u64 0]:List AV) (z6 h_2)) fun h_200=>obind (z16 h_200 3 (z6 h_2)) fun w4_203=>some (.ret (.agg w4_203),h_200)))) fun k137=>ifB t73 (k137 true h_4) (lett ((t15:Int) == 6) fun (t74:Bool)=>k137 t74 h_4))))
set_option maxHeartbeats 4000000 in
set_option maxRecDepth 20000 in
theorem z1e1{call:zc}(hc:SaysAll Tryd.prog call){n:Nat}{t0:AV}{t1:List AV}{h:AHeap}{rR:ARes}{hR:AHeap}(hF:z19 call n t0 t1 h=some (rR,hR)):Says Tryd.prog 37 [t0,.agg t1] h rR hR:=by
 unfold z19 at hF;refine sO Tryd.func37 fun w0 m0=>?_;refine wW [(0,t0),(1,.agg t1)] ?_;refine oG fun n1=>W.r ?_;refine oK 3 hF fun v3 h_2 hF=>?_;refine oN 4 hF fun h_4 hF=>?_;refine oV [(0,t0),(3,v3),(4,(z6 h_2))] (n1 ?_);refine oH fun n6 q6=>?_;refine oG fun n7=>W.r ?_;refine oF 14 68 0 hF fun t14 hF=>?_;refine oLi 15 3 hF fun t15 hF=>?_;refine oV [(0,t0),(3,v3),(4,(z6 h_2)),(15,.int .i64 t15)] (n7 ?_);refine yc (by kernel_rfl) (fun K11 n11 s11 o11 q11 p11=>?_);refine oG fun n12=>W.r ?_;refine oB 17 hF fun t17 hF=>?_;refine oA 16 (.bool t17) ?_;refine oV [(0,t0),(3,v3),(4,(z6 h_2)),(15,.int .i64 t15),(16,.bool t17)] (n12 ?_)
 cases t17 with
 |true=>
  refine oT hF fun hF=>?_;refine oG fun n14=>W.r ?_;refine oA 18 t0 ?_;refine oF 19 68 1 hF fun t19 hF=>?_;refine oR 20 65 hF fun t20 hF=>?_;refine oCa hc 21 hF fun t21 h_17 hF=>?_;refine oW 90 (.agg t21) hF fun h_20 hF=>?_;refine oV [(4,(z6 h_2))] (n14 (oY (q11 (q6 ?_))));obtain⟨w4,e22,hF⟩:=z3 hF;exact lZ hF [.cell 4 90] [.agg w4] (rY e22 zd)
 |false=>
  refine oU hF fun hF=>?_;refine oG fun n23=>W.r ?_;refine oB 23 hF fun t23 hF=>?_;refine oA 22 (.bool t23) ?_;refine oV [(0,t0),(3,v3),(4,(z6 h_2)),(15,.int .i64 t15),(22,.bool t23)] (n23 ?_)
  cases t23 with
  |true=>
   refine oT hF fun hF=>?_;refine oG fun n25=>W.r ?_;refine oA 24 (.agg ([.bool true,.int .u64 0,.int .u64 0]:List AV)) ?_;refine oN 5 hF fun h_26 hF=>?_;refine oW 90 (.agg ([.bool true,.int .u64 0,.int .u64 0]:List AV)) hF fun h_28 hF=>?_;refine oV [(0,t0),(3,v3),(4,(z6 h_2)),(5,(z6 h_4))] (n25 ?_);refine W.s (fun K30 n30 e30 q30 p30=>?_);refine oG fun n31=>W.r ?_;refine oF 25 68 2 hF fun t25 hF=>?_;refine oL 26 66 hF fun v26 hF=>?_;refine oM 27 66 68 hF fun t27 hF=>?_;refine oA 28 (.int .i64 0) ?_;refine oV [(0,t0),(4,(z6 h_2)),(5,(z6 h_4)),(26,v26),(27,.int .i64 t27),(28,.int .i64 0)] (n31 ?_);obtain⟨k36,e36,hF⟩:=z9 hF
   have J36:∀(h_37:AHeap),k36 h_37=some (rR,hR)→Go w0 m0 (Func.ntmps Tryd.f37) (K30 .normal) [(4,(z6 h_2)),(5,(z6 h_4))] [] h_37:=by
    intro h_37 hF;rw[e36] at hF;refine n30 ?_;refine oG fun n38=>W.r ?_;refine oR 39 90 hF fun t39 hF=>?_;refine oW 90 (.agg t39) hF fun h_40 hF=>?_;refine oV [(4,(z6 h_2))] (n38 (oY (q11 (q6 ?_))));obtain⟨w4_43,e42,hF⟩:=z3 hF;exact lZ hF [.cell 4 90] [.agg w4_43] (rY e42 zd)
   refine yc (by kernel_rfl) (fun K35 n35 s35 o35 q35 p35=>?_);refine y14 (by kernel_rfl) (fun I44 K44 b44 n44 e44 q44 p44=>?_)
   have L44:∀(m:Nat) (t28:Int) (h_45:AHeap),z77 call t0 h_4 v26 t27 k36 m t28 h_45=some (rR,hR)→Go w0 m0 (Func.ntmps Tryd.f37) I44 [(0,t0),(4,(z6 h_2)),(5,(z6 h_4)),(26,v26),(27,.int .i64 t27),(28,.int .i64 t28)] [] h_45:=by
    intro m
    induction m with
    |zero=>intro t28 h_45 hF;cases hF
    |succ m ih44=>
     intro t28 h_45 hF;rw[z11a] at hF;unfold z96 at hF;refine b44 ?_;refine oG fun n46=>W.r ?_;refine oB 29 hF fun t29 hF=>?_;refine oV [(0,t0),(4,(z6 h_2)),(5,(z6 h_4)),(26,v26),(27,.int .i64 t27),(28,.int .i64 t28),(29,.bool t29)] (n46 ?_);refine W.s (fun K48 n48 e48 q48 p48=>?_)
     cases t29 with
     |true=>
      refine oT hF fun hF=>?_;refine oZ (n48 ?_);refine oG fun n49=>?_;refine yc (by kernel_rfl) (fun K50 n50 s50 o50 q50 p50=>?_);refine oG fun n51=>W.r ?_;refine oP 30 66 68 .i64 hF fun t30 hF=>?_;refine oR 31 68 hF fun t31 hF=>?_;refine oN 7 hF fun h_54 hF=>?_;refine oW 68 (.agg t31) hF fun h_56 hF=>?_;refine oV [(0,t0),(4,(z6 h_2)),(5,(z6 h_4)),(7,(z6 h_45)),(26,v26),(27,.int .i64 t27),(28,.int .i64 t28)] (n51 ?_);refine y21 (by kernel_rfl) (hc.ok w0) (plan:=[0,1,2,3,4,5,6]) (by kernel_rfl) (by kernel_rfl) (by kernel_rfl) ?_;refine WD.a 0 (some 32) t0 h_56 ?_;obtain⟨t33,e58,hF⟩:=z3 hF;refine WD.b 1 (some 33) (.agg t33) h_56 (zb1 (P:=Tryd.prog) (h:=h_56) (t:=90) (by kernel_rfl) (by kernel_rfl) e58) ?_;refine WD.a 0 (some 34) t0 h_56 ?_;obtain⟨t35,e59,hF⟩:=z3 hF;refine WD.b 1 (some 35) (.agg t35) h_56 (zb1 (P:=Tryd.prog) (h:=h_56) (t:=68) (by kernel_rfl) (by kernel_rfl) e59) ?_
      replace hF:=z4d hF;obtain⟨r36,h_60,e61,hF⟩:=hF
      replace hF:=z3 hF;obtain⟨t36,c62,hF⟩:=hF
      have c62:=z4e c62;subst c62;obtain⟨k63,hF⟩:=z161 hF;refine WD.call (d:=(some 36)) (by kernel_rfl) (by kernel_rfl) (by kernel_rfl) e61 (k:=2) (by kernel_rfl) (fun _=>(Eq.trans (by kernel_rfl) k63)) (by decide) ?_
      replace hF:=z4d hF;obtain⟨r37,h_64,e65,hF⟩:=hF
      replace hF:=z3 hF;obtain⟨t37,c66,hF⟩:=hF
      have c66:=z4e c66;subst c66;refine WD.call (d:=(some 37)) (by kernel_rfl) (by kernel_rfl) (by kernel_rfl) e65 (k:=2) (by kernel_rfl) (fun _=>(by kernel_rfl)) (by decide) ?_;obtain⟨h_67,e68,hF⟩:=z3 hF;refine WD.eff (h':=h_67) (by kernel_rfl) (by kernel_rfl) (Eq.trans (by kernel_rfl) (z3f (P:=Tryd.prog) (h:=h_64) (t:=90) (v:=(.agg t37)) (by kernel_rfl) (by kernel_rfl) e68)) (k:=2) (by kernel_rfl) (fun _=>(by kernel_rfl)) (by decide) ?_;refine WD.nil ?_;refine gW [(0,t0),(4,(z6 h_2)),(5,(z6 h_4)),(26,v26),(27,.int .i64 t27),(28,.int .i64 t28)] (n50 (n49 (W.r ?_)));refine oI 38 .i64 hF fun t38 hF=>?_;refine oA 28 (.int .i64 t38) ?_;refine oV [(0,t0),(4,(z6 h_2)),(5,(z6 h_4)),(26,v26),(27,.int .i64 t27),(28,.int .i64 t38)] (n44 ?_);exact gW _ (ih44 _ _ hF)
     |false=>
      refine oU hF fun hF=>?_;refine W.exit (by kernel_rfl) ?_;refine e48 (e44 ?_);refine s35 (by kernel_rfl) ?_;exact gW _ (J36 _ hF)
   exact gW _ (L44 _ _ _ hF)
  |false=>
   refine oU hF fun hF=>?_;refine oG fun n70=>W.r ?_;refine oB 41 hF fun t41 hF=>?_;refine oA 40 (.bool t41) ?_;refine oV [(0,t0),(3,v3),(4,(z6 h_2)),(15,.int .i64 t15),(40,.bool t41)] (n70 ?_)
   cases t41 with
   |true=>
    refine oT hF fun hF=>?_;refine oG fun n72=>W.r ?_;refine oA 42 (.agg ([.bool false,.int .u64 0,.int .u64 0]:List AV)) ?_;refine oN 8 hF fun h_73 hF=>?_;refine oW 90 (.agg ([.bool false,.int .u64 0,.int .u64 0]:List AV)) hF fun h_75 hF=>?_;refine oV [(0,t0),(3,v3),(4,(z6 h_2)),(8,(z6 h_4))] (n72 ?_);refine W.s (fun K77 n77 e77 q77 p77=>?_);refine oG fun n78=>W.r ?_;refine oF 43 68 2 hF fun t43 hF=>?_;refine oL 44 66 hF fun v44 hF=>?_;refine oM 45 66 68 hF fun t45 hF=>?_;refine oA 46 (.int .i64 0) ?_;refine oV [(0,t0),(4,(z6 h_2)),(8,(z6 h_4)),(44,v44),(45,.int .i64 t45),(46,.int .i64 0)] (n78 ?_);obtain⟨k83,e83,hF⟩:=z9 hF
    have J83:∀(h_84:AHeap),k83 h_84=some (rR,hR)→Go w0 m0 (Func.ntmps Tryd.f37) (K77 .normal) [(4,(z6 h_2)),(8,(z6 h_4))] [] h_84:=by
     intro h_84 hF;rw[e83] at hF;refine n77 ?_;refine oG fun n85=>W.r ?_;refine oR 71 90 hF fun t71 hF=>?_;refine oW 90 (.agg t71) hF fun h_87 hF=>?_;refine oV [(4,(z6 h_2))] (n85 (oY (q11 (q6 ?_))));obtain⟨w4_90,e89,hF⟩:=z3 hF;exact lZ hF [.cell 4 90] [.agg w4_90] (rY e89 zd)
    refine yc (by kernel_rfl) (fun K82 n82 s82 o82 q82 p82=>?_);refine y14 (by kernel_rfl) (fun I91 K91 b91 n91 e91 q91 p91=>?_)
    have L91:∀(m:Nat) (t46:Int) (h_92:AHeap),z76 call t0 h_4 v44 t45 k83 m t46 h_92=some (rR,hR)→Go w0 m0 (Func.ntmps Tryd.f37) I91 [(0,t0),(4,(z6 h_2)),(8,(z6 h_4)),(44,v44),(45,.int .i64 t45),(46,.int .i64 t46)] [] h_92:=by
     intro m
     induction m with
     |zero=>intro t46 h_92 hF;cases hF
     |succ m ih91=>
      intro t46 h_92 hF;rw[z119] at hF;unfold z95 at hF;refine b91 ?_;refine oG fun n93=>W.r ?_;refine oB 47 hF fun t47 hF=>?_;refine oV [(0,t0),(4,(z6 h_2)),(8,(z6 h_4)),(44,v44),(45,.int .i64 t45),(46,.int .i64 t46),(47,.bool t47)] (n93 ?_);refine W.s (fun K95 n95 e95 q95 p95=>?_)
      cases t47 with
      |true=>
       refine oT hF fun hF=>?_;refine oZ (n95 ?_);refine oG fun n96=>?_;refine yc (by kernel_rfl) (fun K97 n97 s97 o97 q97 p97=>?_);refine oG fun n98=>W.r ?_;refine oP 48 66 68 .i64 hF fun t48 hF=>?_;refine oR 49 68 hF fun t49 hF=>?_;refine oN 10 hF fun h_101 hF=>?_;refine oW 68 (.agg t49) hF fun h_103 hF=>?_;refine oV [(0,t0),(4,(z6 h_2)),(8,(z6 h_4)),(10,(z6 h_92)),(44,v44),(45,.int .i64 t45),(46,.int .i64 t46)] (n98 ?_);refine oG fun n105=>W.r ?_;refine oA 50 t0 ?_;refine oR 51 68 hF fun t51 hF=>?_;refine oCa hc 52 hF fun t52 h_107 hF=>?_;refine oN 11 hF fun h_110 hF=>?_;refine oW 90 (.agg t52) hF fun h_112 hF=>?_;refine oV [(0,t0),(4,(z6 h_2)),(8,(z6 h_4)),(11,(z6 h_107)),(44,v44),(45,.int .i64 t45),(46,.int .i64 t46)] (n105 (W.r ?_));refine oA 53 (AV.ptr (AHeap.next h_4) 0) ?_;refine oLb 54 4 hF fun t54 hF=>?_;refine oA 55 (.bool t54) ?_;obtain⟨j58,e117,hF⟩:=z9 hF
       have J118:∀(t58:Bool) (h_116:AHeap),j58 t58 h_116=some (rR,hR)→WL Tryd.prog w0 m0 (Func.ntmps Tryd.f37) (Code.ops (y3 (y3 (y4 (y4 (y3 (y3 (y4 (y4 (y3 (y4 (y3 (y4 (y3 (y3 (y3 (y3 (y3 (y4 (y3 (y4 (y3 (z55 Tryd.f37))))))))))))))))))))))) 6 K97 [(0,t0),(4,(z6 h_2)),(8,(z6 h_4)),(11,(z6 h_107)),(44,v44),(45,.int .i64 t45),(46,.int .i64 t46),(58,.bool t58)] [] h_116:=by
        intro t58 h_116 hF;rw[e117] at hF;refine oA 59 (AV.ptr (AHeap.next h_4) 1) ?_;refine oLi 60 63 hF fun t60 hF=>?_;refine oA 61 (AV.ptr (AHeap.next h_107) 1) ?_;refine oLi 62 63 hF fun t62 hF=>?_;refine oI 63 .u64 hF fun t63 hF=>?_;refine oA 64 (AV.ptr (AHeap.next h_4) 2) ?_;refine oLi 65 63 hF fun t65 hF=>?_;refine oA 66 (AV.ptr (AHeap.next h_107) 2) ?_;refine oLi 67 63 hF fun t67 hF=>?_;refine oI 68 .u64 hF fun t68 hF=>?_;refine oA 69 (.agg ([.bool t58,.int .u64 t63,.int .u64 t68]:List AV)) ?_;refine oW 90 (.agg ([.bool t58,.int .u64 t63,.int .u64 t68]:List AV)) hF fun h_129 hF=>?_;refine oV [(0,t0),(4,(z6 h_2)),(8,(z6 h_4)),(44,v44),(45,.int .i64 t45),(46,.int .i64 t46)] (n97 (n96 (W.r ?_)));refine oI 70 .i64 hF fun t70 hF=>?_;refine oA 46 (.int .i64 t70) ?_;refine oV [(0,t0),(4,(z6 h_2)),(8,(z6 h_4)),(44,v44),(45,.int .i64 t45),(46,.int .i64 t70)] (n91 ?_);exact gW _ (ih91 _ _ hF)
       cases t54 with
       |true=>
        replace hF:=zc3 hF
        refine WL.o (some 56) ?_;refine WL.o (some 57) ?_;refine oA 58 (.bool true) ?_;exact lW _ (J118 _ _ hF)
       |false=>
        replace hF:=zc4 hF
        refine oA 56 (AV.ptr (AHeap.next h_107) 0) ?_;refine oLb 57 4 hF fun t57 hF=>?_;refine oA 58 (.bool t57) ?_;exact lW _ (J118 _ _ hF)
      |false=>
       refine oU hF fun hF=>?_;refine W.exit (by kernel_rfl) ?_;refine e95 (e91 ?_);refine s82 (by kernel_rfl) ?_;exact gW _ (J83 _ hF)
    exact gW _ (L91 _ _ _ hF)
   |false=>
    refine oU hF fun hF=>?_;refine W.s (fun K134 n134 e134 q134 p134=>?_);refine oG fun n135=>W.r ?_;refine oB 73 hF fun t73 hF=>?_;refine oA 72 (.bool t73) ?_;refine oV [(0,t0),(3,v3),(4,(z6 h_2)),(15,.int .i64 t15),(72,.bool t73)] (n135 ?_);obtain⟨k137,e137,hF⟩:=z9 hF
    have J137:∀(t72:Bool) (h_138:AHeap),k137 t72 h_138=some (rR,hR)→Go w0 m0 (Func.ntmps Tryd.f37) (K134 .normal) [(0,t0),(3,v3),(4,(z6 h_2)),(15,.int .i64 t15),(72,.bool t72)] [] h_138:=by
     intro t72 h_138 hF;rw[e137] at hF;refine n134 ?_
     cases t72 with
     |true=>
      refine oT hF fun hF=>?_;refine oG fun n139=>W.r ?_;refine oA 75 t0 ?_;refine oF 76 68 2 hF fun t76 hF=>?_;refine oL 77 66 hF fun v77 hF=>?_;refine oP 78 66 68 .i64 hF fun t78 hF=>?_;refine oR 79 68 hF fun t79 hF=>?_;refine oCa hc 80 hF fun t80 h_144 hF=>?_;refine oN 12 hF fun h_147 hF=>?_;refine oW 90 (.agg t80) hF fun h_149 hF=>?_;refine oV [(0,t0),(3,v3),(4,(z6 h_2)),(12,(z6 h_144))] (n139 ?_);refine oG fun n151=>W.r ?_;refine oA 81 t0 ?_;refine oA 82 (AV.ptr (AHeap.next h_144) 2) ?_;refine oLi 83 63 hF fun t83 hF=>?_;refine oA 84 (AV.ptr (AHeap.next h_144) 1) ?_;refine oLi 85 63 hF fun t85 hF=>?_;refine oC hc (some 86) hF fun r86 h_156 hF=>?_;refine oV [(3,v3),(4,(z6 h_2)),(12,(z6 h_144))] (n151 ?_);refine W.s (fun K158 n158 e158 q158 p158=>?_);refine W.r ?_;refine oA 87 (AV.ptr (AHeap.next h_144) 0) ?_;refine oLb 88 4 hF fun t88 hF=>?_;refine oA 89 (.bool t88) ?_;obtain⟨j93,e162,hF⟩:=z9 hF
      have J163:∀(t93:Bool) (h_161:AHeap),j93 t93 h_161=some (rR,hR)→WL Tryd.prog w0 m0 (Func.ntmps Tryd.f37) (Code.ops (y4 (y3 (y3 (y4 (y3 (y3 (y3 (y3 (y3 (y3 (y3 (y4 (y3 (y4 (y3 (z55 Tryd.f37))))))))))))))))) 7 K158 [(4,(z6 h_2)),(12,(z6 h_144)),(93,.bool t93)] [] h_161:=by
       intro t93 h_161 hF;rw[e162] at hF;refine oA 94 (AV.ptr (AHeap.next h_144) 0) ?_;refine oW 4 (.bool t93) hF fun h_164 hF=>?_;refine oV [(4,(z6 h_2)),(12,(z6 h_144))] (n158 ?_);refine oG fun n166=>W.r ?_;refine oR 95 90 hF fun t95 hF=>?_;refine oW 90 (.agg t95) hF fun h_168 hF=>?_;refine oV [(4,(z6 h_2))] (n166 (oY (q11 (q6 ?_))));obtain⟨w4_171,e170,hF⟩:=z3 hF;exact lZ hF [.cell 4 90] [.agg w4_171] (rY e170 zd)
      cases t88 with
      |true=>
       replace hF:=zc3 hF
       refine WL.o (some 90) ?_;refine WL.o (some 91) ?_;refine WL.o (some 92) ?_;refine oA 93 (.bool true) ?_;exact lW _ (J163 _ _ hF)
      |false=>
       replace hF:=zc4 hF
       refine oF 90 68 0 hF fun t90 hF=>?_;refine oLi 91 3 hF fun t91 hF=>?_;refine oB 92 hF fun t92 hF=>?_;refine oA 93 (.bool t92) ?_;exact lW _ (J163 _ _ hF)
     |false=>
      refine oU hF fun hF=>?_;refine oG fun n176=>W.r ?_;refine oB 97 hF fun t97 hF=>?_;refine oA 96 (.bool t97) ?_;refine oV [(0,t0),(3,v3),(4,(z6 h_2)),(96,.bool t97)] (n176 ?_)
      cases t97 with
      |true=>
       refine oT hF fun hF=>?_;refine oG fun n178=>W.r ?_;refine oA 98 t0 ?_;refine oF 99 68 2 hF fun t99 hF=>?_;refine oL 100 66 hF fun v100 hF=>?_;refine oP 101 66 68 .i64 hF fun t101 hF=>?_;refine oR 102 68 hF fun t102 hF=>?_;refine oCa hc 103 hF fun t103 h_183 hF=>?_;refine oN 13 hF fun h_186 hF=>?_;refine oW 90 (.agg t103) hF fun h_188 hF=>?_;refine oV [(4,(z6 h_2)),(13,(z6 h_183))] (n178 ?_);refine oG fun n190=>W.r ?_;refine oA 104 (AV.ptr (AHeap.next h_183) 0) ?_;refine oW 4 (.bool true) hF fun h_191 hF=>?_;refine oV [(4,(z6 h_2)),(13,(z6 h_183))] (n190 ?_);refine oG fun n193=>W.r ?_;refine oR 105 90 hF fun t105 hF=>?_;refine oW 90 (.agg t105) hF fun h_195 hF=>?_;refine oV [(4,(z6 h_2))] (n193 (oY (q11 (q6 ?_))));obtain⟨w4_198,e197,hF⟩:=z3 hF;exact lZ hF [.cell 4 90] [.agg w4_198] (rY e197 zd)
      |false=>
       refine oU hF fun hF=>?_;refine oZ (n11 (n6 ?_));refine oG fun n199=>W.r ?_;refine oA 106 (.agg ([.bool true,.int .u64 0,.int .u64 0]:List AV)) ?_;refine oW 90 (.agg ([.bool true,.int .u64 0,.int .u64 0]:List AV)) hF fun h_200 hF=>?_;refine oV [(4,(z6 h_2))] (n199 (oY ?_));obtain⟨w4_203,e202,hF⟩:=z3 hF;exact lZ hF [.cell 4 90] [.agg w4_203] (rY e202 zd)
    cases t73 with
    |true=>
     refine oT hF fun hF=>?_;refine oZ ?_;exact gW _ (J137 _ _ hF)
    |false=>
     refine oU hF fun hF=>?_;refine W.r ?_;refine oB 74 hF fun t74 hF=>?_;refine oA 72 (.bool t74) ?_;refine oV [(0,t0),(3,v3),(4,(z6 h_2)),(15,.int .i64 t15),(72,.bool t74)] ?_;exact gW _ (J137 _ _ hF)
noncomputable def z68(t0:AV)(v3:AV)(t11:Int)(k25:AHeap→R)(self:Int→AHeap→R)(t19:Int)(h_32:AHeap):R:=lett (decide (t19<256)) fun (t20:Bool)=>ifB t20 (obind (quoI .i64 t19 64) fun t23=>obind (z313 4 1 v3 t23) fun t24=>obind (z7 h_32 t24) fun v25=>obind (avInt .u64 v25) fun t25=>obind (remI .i64 t19 64) fun t27=>obind (shrI .u64 t25 t27) fun t28=>lett (z3ba .u64 t28 1) fun (t29:Int)=>lett ((t29:Int) == 1) fun (t30:Bool)=>lett (fun (h_49:AHeap)=>lett (IntKind.i64.wrap (t19+1)) fun (t45:Int)=>self t45 h_49) fun k48=>ifB t30 (obind (z74 t0) fun t32=>obind (z49 0 t32) fun t33=>obind (z7 h_32 t33) fun v34=>obind (z74 v34) fun t36=>obind (z49 67 t36) fun t37=>obind (z313 256 1 t37 t19) fun t38=>obind (z7 h_32 t38) fun v39=>obind (avInt .u64 v39) fun t39=>lett (orI .u64 t39 t11) fun (t41:Int)=>obind (z74 v34) fun t42=>obind (z49 67 t42) fun t43=>obind (z313 256 1 t43 t19) fun t44=>obind (z15 h_32 1 [.int .u64 t41] t44) fun h_63=>k48 h_63) (k48 h_32)) (k25 h_32)
noncomputable def z75(t0:AV)(v3:AV)(t11:Int)(k25:AHeap→R):Nat→Int→AHeap→R:=ze6 (fun _ _=>none) (z68 t0 v3 t11 k25)
theorem zc2(t0:AV)(v3:AV)(t11:Int)(k25:AHeap→R)(m:Nat):z75 t0 v3 t11 k25 (m+1)=z68 t0 v3 t11 k25 (z75 t0 v3 t11 k25 m):=rfl
noncomputable def z81(_:zc)(n:Nat)(t0:AV)(t1:List AV)(h:AHeap):R:=outK (z118 h 65 (some (.agg t1))) fun v3 h_2=>lett (newH h_2 90 [.bool false,.int .u64 0,.int .u64 0]) fun h_4=>obind (z74 t0) fun t8=>obind (z49 1 t8) fun t9=>obind (z7 h_4 t9) fun v10=>obind (avInt .i64 v10) fun t10=>obind (shlI .u64 1 t10) fun t11=>obind (z74 t0) fun t13=>obind (z49 1 t13) fun t14=>obind (z7 h_4 t14) fun v15=>obind (avInt .i64 v15) fun t15=>lett (IntKind.i64.wrap (t15+1)) fun (t16:Int)=>obind (z74 t0) fun t17=>obind (z49 1 t17) fun t18=>obind (z15 h_4 1 [.int .i64 t16] t18) fun h_20=>lett (fun (h_26:AHeap)=>obind (z15 h_26 3 ([.bool false,.int .u64 t11,.int .u64 t11]:List AV) (z6 h_2)) fun h_28=>obind (z16 h_28 3 (z6 h_2)) fun w4=>some (.ret (.agg w4),h_28)) fun k25=>z75 t0 v3 t11 k25 n 0 h_20
set_option maxHeartbeats 4000000 in
set_option maxRecDepth 20000 in
theorem z1e0{call:zc}(hc:SaysAll Tryd.prog call){n:Nat}{t0:AV}{t1:List AV}{h:AHeap}{rR:ARes}{hR:AHeap}(hF:z81 call n t0 t1 h=some (rR,hR)):Says Tryd.prog 57 [t0,.agg t1] h rR hR:=by
 unfold z81 at hF;refine sO Tryd.func57 fun w0 m0=>?_;refine wW [(0,t0),(1,.agg t1)] ?_;refine oG fun n1=>W.r ?_;refine oK 3 hF fun v3 h_2 hF=>?_;refine oN 4 hF fun h_4 hF=>?_;refine oV [(0,t0),(3,v3),(4,(z6 h_2))] (n1 ?_);refine oG fun n6=>W.r ?_;refine oA 7 t0 ?_;refine oC0 8 hF fun t8 hF=>?_;refine oF 9 88 1 hF fun t9 hF=>?_;refine oLi 10 3 hF fun t10 hF=>?_;obtain⟨t11,e11,hF⟩:=z3 hF;refine WL.b (some 11) (.int .u64 t11) h_4 (z3cd (P:=Tryd.prog) (h:=h_4) (t:=63) (k':=.i64) (lit:=true) e11) ?_;refine oA 5 (.int .u64 t11) ?_;refine oV [(0,t0),(3,v3),(4,(z6 h_2)),(5,.int .u64 t11)] (n6 ?_);refine oG fun n12=>W.r ?_;refine oA 12 t0 ?_;refine oC0 13 hF fun t13 hF=>?_;refine oF 14 88 1 hF fun t14 hF=>?_;refine oLi 15 3 hF fun t15 hF=>?_;refine oI 16 .i64 hF fun t16 hF=>?_;refine oC0 17 hF fun t17 hF=>?_;refine oF 18 88 1 hF fun t18 hF=>?_;refine oW 3 (.int .i64 t16) hF fun h_20 hF=>?_;refine oV [(0,t0),(3,v3),(4,(z6 h_2)),(5,.int .u64 t11)] (n12 ?_);refine W.s (fun K22 n22 e22 q22 p22=>?_);refine oG fun n23=>W.r ?_;refine oA 19 (.int .i64 0) ?_;refine oV [(0,t0),(3,v3),(4,(z6 h_2)),(5,.int .u64 t11),(19,.int .i64 0)] (n23 ?_);obtain⟨k25,e25,hF⟩:=z9 hF
 have J25:∀(h_26:AHeap),k25 h_26=some (rR,hR)→Go w0 m0 (Func.ntmps Tryd.f57) (K22 .normal) [(4,(z6 h_2)),(5,.int .u64 t11)] [] h_26:=by
  intro h_26 hF;rw[e25] at hF;refine n22 ?_;refine oG fun n27=>W.r ?_;refine oA 46 (.int .u64 t11) ?_;refine oA 47 (.int .u64 t11) ?_;refine oA 48 (.agg ([.bool false,.int .u64 t11,.int .u64 t11]:List AV)) ?_;refine oW 90 (.agg ([.bool false,.int .u64 t11,.int .u64 t11]:List AV)) hF fun h_28 hF=>?_;refine oV [(4,(z6 h_2))] (n27 (oY ?_));obtain⟨w4,e30,hF⟩:=z3 hF;exact lZ hF [.cell 4 90] [.agg w4] (rY e30 zd)
 refine yc (by kernel_rfl) (fun K24 n24 s24 o24 q24 p24=>?_);refine y14 (by kernel_rfl) (fun I31 K31 b31 n31 e31 q31 p31=>?_)
 have L31:∀(m:Nat) (t19:Int) (h_32:AHeap),z75 t0 v3 t11 k25 m t19 h_32=some (rR,hR)→Go w0 m0 (Func.ntmps Tryd.f57) I31 [(0,t0),(3,v3),(4,(z6 h_2)),(5,.int .u64 t11),(19,.int .i64 t19)] [] h_32:=by
  intro m
  induction m with
  |zero=>intro t19 h_32 hF;cases hF
  |succ m ih31=>
   intro t19 h_32 hF;rw[zc2] at hF;unfold z68 at hF;refine b31 ?_;refine oG fun n33=>W.r ?_;refine oB 20 hF fun t20 hF=>?_;refine oV [(0,t0),(3,v3),(4,(z6 h_2)),(5,.int .u64 t11),(19,.int .i64 t19),(20,.bool t20)] (n33 ?_);refine W.s (fun K35 n35 e35 q35 p35=>?_)
   cases t20 with
   |true=>
    refine oT hF fun hF=>?_;refine oZ (n35 ?_);refine oG fun n36=>?_;refine yc (by kernel_rfl) (fun K37 n37 s37 o37 q37 p37=>?_);refine oG fun n38=>W.r ?_;refine oA 21 (.int .i64 t19) ?_;refine oA 6 (.int .i64 t19) ?_;refine oV [(0,t0),(3,v3),(4,(z6 h_2)),(5,.int .u64 t11),(6,.int .i64 t19),(19,.int .i64 t19)] (n38 ?_);refine oG fun n39=>W.r ?_;refine oA 22 (.int .i64 t19) ?_;obtain⟨t23,e40,hF⟩:=z3 hF;refine WL.b (some 23) (.int .i64 t23) h_32 (z491 (P:=Tryd.prog) (h:=h_32) (t:=3) (lit:=true) e40) ?_;refine oQ 24 65 63 .i64 hF fun t24 hF=>?_;refine oLi 25 63 hF fun t25 hF=>?_;refine oA 26 (.int .i64 t19) ?_;obtain⟨t27,e44,hF⟩:=z3 hF;refine WL.b (some 27) (.int .i64 t27) h_32 (z48c (P:=Tryd.prog) (h:=h_32) (t:=3) (lit:=true) e44) ?_;obtain⟨t28,e45,hF⟩:=z3 hF;refine WL.b (some 28) (.int .u64 t28) h_32 (z3cb (P:=Tryd.prog) (h:=h_32) (t:=63) (k':=.i64) (lit:=false) e45) ?_;refine oI 29 .u64 hF fun t29 hF=>?_;refine oB 30 hF fun t30 hF=>?_;refine oV [(0,t0),(3,v3),(4,(z6 h_2)),(5,.int .u64 t11),(6,.int .i64 t19),(19,.int .i64 t19),(30,.bool t30)] (n39 ?_);obtain⟨k48,e48,hF⟩:=z9 hF
    have J48:∀(h_49:AHeap),k48 h_49=some (rR,hR)→Go w0 m0 (Func.ntmps Tryd.f57) (K37 .normal) [(0,t0),(3,v3),(4,(z6 h_2)),(5,.int .u64 t11),(19,.int .i64 t19)] [] h_49:=by
     intro h_49 hF;rw[e48] at hF;refine n37 (n36 (W.r ?_));refine oI 45 .i64 hF fun t45 hF=>?_;refine oA 19 (.int .i64 t45) ?_;refine oV [(0,t0),(3,v3),(4,(z6 h_2)),(5,.int .u64 t11),(19,.int .i64 t45)] (n31 ?_);exact gW _ (ih31 _ _ hF)
    cases t30 with
    |true=>
     refine oT hF fun hF=>?_;refine y21 (by kernel_rfl) (hc.ok w0) (plan:=[0,1,2,3,4,5,6,7,8,9,10,11,12,13,14]) (by kernel_rfl) (by kernel_rfl) (by kernel_rfl) ?_;refine WD.a 0 (some 31) t0 h_32 ?_;obtain⟨t32,e51,hF⟩:=z3 hF;refine WD.b 0 (some 32) t32 h_32 (z2c (h:=h_32) e51) ?_;obtain⟨t33,e52,hF⟩:=z3 hF;refine WD.b 0 (some 33) t33 h_32 (z1b (P:=Tryd.prog) (h:=h_32) (s:=88) (f:=0) (by kernel_rfl) e52) ?_;obtain⟨v34,e53,hF⟩:=z3 hF;refine WD.b 1 (some 34) v34 h_32 (z14 (P:=Tryd.prog) (h:=h_32) (t:=47) (by kernel_rfl) e53) ?_;refine WD.a 0 (some 35) (.int .i64 t19) h_32 ?_;obtain⟨t36,e54,hF⟩:=z3 hF;refine WD.b 0 (some 36) t36 h_32 (z2c (h:=h_32) e54) ?_;obtain⟨t37,e55,hF⟩:=z3 hF;refine WD.b 0 (some 37) t37 h_32 (z1b (P:=Tryd.prog) (h:=h_32) (s:=86) (f:=4) (by kernel_rfl) e55) ?_;obtain⟨t38,e56,hF⟩:=z3 hF;refine WD.b 0 (some 38) t38 h_32 (zec (P:=Tryd.prog) (h:=h_32) (t:=84) (e':=63) (k:=.i64) (by kernel_rfl) (by kernel_rfl) (by kernel_rfl) e56) ?_
     replace hF:=z3 hF;obtain⟨v39,e57,hF⟩:=hF
     replace hF:=z3 hF;obtain⟨t39,c58,hF⟩:=hF
     have c58:=z17 c58;subst c58;refine WD.b 1 (some 39) (.int .u64 t39) h_32 (z14 (P:=Tryd.prog) (h:=h_32) (t:=63) (by kernel_rfl) e57) ?_;refine WD.a 0 (some 40) (.int .u64 t11) h_32 ?_;obtain⟨t41,e59,hF⟩:=z9 hF;refine WD.val (d:=(some 41)) (v:=.int .u64 t41) (h':=h_32) (by kernel_rfl) (by kernel_rfl) (z108 (AV.int .u64) e59 (by kernel_rfl)) (k:=0) (by kernel_rfl) (fun e=>absurd e (by decide)) (by decide) ?_;obtain⟨t42,e60,hF⟩:=z3 hF;refine WD.b 0 (some 42) t42 h_32 (z2c (h:=h_32) e60) ?_;obtain⟨t43,e61,hF⟩:=z3 hF;refine WD.b 0 (some 43) t43 h_32 (z1b (P:=Tryd.prog) (h:=h_32) (s:=86) (f:=4) (by kernel_rfl) e61) ?_;obtain⟨t44,e62,hF⟩:=z3 hF;refine WD.b 0 (some 44) t44 h_32 (zec (P:=Tryd.prog) (h:=h_32) (t:=84) (e':=63) (k:=.i64) (by kernel_rfl) (by kernel_rfl) (by kernel_rfl) e62) ?_;obtain⟨h_63,e64,hF⟩:=z3 hF;refine WD.eff (h':=h_63) (by kernel_rfl) (by kernel_rfl) (Eq.trans (by kernel_rfl) (z3f (P:=Tryd.prog) (h:=h_32) (t:=63) (v:=(.int .u64 t41)) (by kernel_rfl) (by kernel_rfl) e64)) (k:=2) (by kernel_rfl) (fun _=>(by kernel_rfl)) (by decide) ?_;refine WD.nil ?_;refine gW [(0,t0),(3,v3),(4,(z6 h_2)),(5,.int .u64 t11),(19,.int .i64 t19)] ?_;exact gW _ (J48 _ hF)
    |false=>
     refine oU hF fun hF=>?_;refine oZ ?_;exact gW _ (J48 _ hF)
   |false=>
    refine oU hF fun hF=>?_;refine W.exit (by kernel_rfl) ?_;refine e35 (e31 ?_);refine s24 (by kernel_rfl) ?_;exact gW _ (J25 _ hF)
 exact gW _ (L31 _ _ _ hF)
noncomputable def z71(call:zc)(_:Nat)(t0:AV)(t1:List AV)(t2:List AV)(h:AHeap):R:=outK (z118 h 90 (some (.agg t1))) fun v4 h_2=>outK (z118 h_2 90 (some (.agg t2))) fun v5 h_4=>lett (newH h_4 90 [.bool false,.int .u64 0,.int .u64 0]) fun h_6=>obind (z49 2 v4) fun t9=>obind (z7 h_6 t9) fun v10=>obind (avInt .u64 v10) fun t10=>obind (z49 1 v5) fun t11=>obind (z7 h_6 t11) fun v12=>obind (avInt .u64 v12) fun t12=>callN (call 59 [t0,.int .u64 t10,.int .u64 t12] h_6) fun _ h_15=>obind (z49 0 v4) fun t14=>obind (z7 h_15 t14) fun v15=>obind (z23 v15) fun t15=>lett (fun (t19:Bool) (h_21:AHeap)=>obind (z49 1 v4) fun t20=>obind (z7 h_21 t20) fun v21=>obind (avInt .u64 v21) fun t21=>obind (z49 2 v5) fun t22=>obind (z7 h_21 t22) fun v23=>obind (avInt .u64 v23) fun t23=>lett (newH h_21 90 [.bool false,.int .u64 0,.int .u64 0]) fun h_30=>obind (z15 h_30 3 ([.bool t19,.int .u64 t21,.int .u64 t23]:List AV) (z6 h_21)) fun h_32=>obind (z49 0 v4) fun t25=>obind (z7 h_32 t25) fun v26=>obind (z23 v26) fun t26=>lett (fun (h_40:AHeap)=>obind (z49 0 v5) fun t33=>obind (z7 h_40 t33) fun v34=>obind (z23 v34) fun t34=>lett (fun (h_47:AHeap)=>obind (z16 h_47 3 (z6 h_21)) fun t41=>obind (z15 h_47 3 t41 (z6 h_4)) fun h_50=>obind (z16 h_50 3 (z6 h_4)) fun w6=>some (.ret (.agg w6),h_50)) fun k46=>ifB t34 (obind (z7 h_40 (AV.ptr (AHeap.next h_21) 2)) fun v36=>obind (avInt .u64 v36) fun t36=>obind (z49 2 v4) fun t37=>obind (z7 h_40 t37) fun v38=>obind (avInt .u64 v38) fun t38=>lett (orI .u64 t36 t38) fun (t39:Int)=>obind (z15 h_40 1 [.int .u64 t39] (AV.ptr (AHeap.next h_21) 2)) fun h_59=>k46 h_59) (k46 h_40)) fun k39=>ifB t26 (obind (z7 h_32 (AV.ptr (AHeap.next h_21) 1)) fun v28=>obind (avInt .u64 v28) fun t28=>obind (z49 1 v5) fun t29=>obind (z7 h_32 t29) fun v30=>obind (avInt .u64 v30) fun t30=>lett (orI .u64 t28 t30) fun (t31:Int)=>obind (z15 h_32 1 [.int .u64 t31] (AV.ptr (AHeap.next h_21) 1)) fun h_67=>k39 h_67) (k39 h_32)) fun j19=>ifB t15 (obind (z49 0 v5) fun t17=>obind (z7 h_15 t17) fun v18=>obind (z23 v18) fun t18=>j19 t18 h_15) (j19 false h_15)
set_option maxHeartbeats 4000000 in
set_option maxRecDepth 20000 in
theorem z1ba{call:zc}(hc:SaysAll Tryd.prog call){n:Nat}{t0:AV}{t1:List AV}{t2:List AV}{h:AHeap}{rR:ARes}{hR:AHeap}(hF:z71 call n t0 t1 t2 h=some (rR,hR)):Says Tryd.prog 58 [t0,.agg t1,.agg t2] h rR hR:=by
 unfold z71 at hF;refine sO Tryd.func58 fun w0 m0=>?_;refine wW [(0,t0),(1,.agg t1),(2,.agg t2)] ?_;refine oG fun n1=>W.r ?_;refine oK 4 hF fun v4 h_2 hF=>?_;refine oK 5 hF fun v5 h_4 hF=>?_;refine oN 6 hF fun h_6 hF=>?_;refine oV [(0,t0),(4,v4),(5,v5),(6,(z6 h_4))] (n1 ?_);refine oG fun n8=>W.r ?_;refine oA 8 t0 ?_;refine oF 9 90 2 hF fun t9 hF=>?_;refine oLi 10 63 hF fun t10 hF=>?_;refine oF 11 90 1 hF fun t11 hF=>?_;refine oLi 12 63 hF fun t12 hF=>?_;refine oC hc (some 13) hF fun r13 h_15 hF=>?_;refine oV [(4,v4),(5,v5),(6,(z6 h_4))] (n8 ?_);refine W.s (fun K17 n17 e17 q17 p17=>?_);refine W.r ?_;refine oF 14 90 0 hF fun t14 hF=>?_;refine oLb 15 4 hF fun t15 hF=>?_;refine oA 16 (.bool t15) ?_;obtain⟨j19,e22,hF⟩:=z9 hF
 have J23:∀(t19:Bool) (h_21:AHeap),j19 t19 h_21=some (rR,hR)→WL Tryd.prog w0 m0 (Func.ntmps Tryd.f58) (Code.ops (y4 (y3 (y3 (z55 Tryd.f58))))) 6 K17 [(4,v4),(5,v5),(6,(z6 h_4)),(19,.bool t19)] [] h_21:=by
  intro t19 h_21 hF;rw[e22] at hF;refine oF 20 90 1 hF fun t20 hF=>?_;refine oLi 21 63 hF fun t21 hF=>?_;refine oF 22 90 2 hF fun t22 hF=>?_;refine oLi 23 63 hF fun t23 hF=>?_;refine oA 24 (.agg ([.bool t19,.int .u64 t21,.int .u64 t23]:List AV)) ?_;refine oN 7 hF fun h_30 hF=>?_;refine oW 90 (.agg ([.bool t19,.int .u64 t21,.int .u64 t23]:List AV)) hF fun h_32 hF=>?_;refine oV [(4,v4),(5,v5),(6,(z6 h_4)),(7,(z6 h_21))] (n17 ?_);refine W.s (fun K34 n34 e34 q34 p34=>?_);refine oG fun n35=>W.r ?_;refine oF 25 90 0 hF fun t25 hF=>?_;refine oLb 26 4 hF fun t26 hF=>?_;refine oV [(4,v4),(5,v5),(6,(z6 h_4)),(7,(z6 h_21)),(26,.bool t26)] (n35 ?_);obtain⟨k39,e39,hF⟩:=z9 hF
  have J39:∀(h_40:AHeap),k39 h_40=some (rR,hR)→Go w0 m0 (Func.ntmps Tryd.f58) (K34 .normal) [(4,v4),(5,v5),(6,(z6 h_4)),(7,(z6 h_21))] [] h_40:=by
   intro h_40 hF;rw[e39] at hF;refine n34 ?_;refine W.s (fun K41 n41 e41 q41 p41=>?_);refine oG fun n42=>W.r ?_;refine oF 33 90 0 hF fun t33 hF=>?_;refine oLb 34 4 hF fun t34 hF=>?_;refine oV [(4,v4),(6,(z6 h_4)),(7,(z6 h_21)),(34,.bool t34)] (n42 ?_);obtain⟨k46,e46,hF⟩:=z9 hF
   have J46:∀(h_47:AHeap),k46 h_47=some (rR,hR)→Go w0 m0 (Func.ntmps Tryd.f58) (K41 .normal) [(6,(z6 h_4)),(7,(z6 h_21))] [] h_47:=by
    intro h_47 hF;rw[e46] at hF;refine n41 ?_;refine oG fun n48=>W.r ?_;refine oR 41 90 hF fun t41 hF=>?_;refine oW 90 (.agg t41) hF fun h_50 hF=>?_;refine oV [(6,(z6 h_4))] (n48 (oY ?_));obtain⟨w6,e52,hF⟩:=z3 hF;exact lZ hF [.cell 6 90] [.agg w6] (rY e52 zd)
   cases t34 with
   |true=>
    refine oT hF fun hF=>?_;refine W.r ?_;refine oA 35 (AV.ptr (AHeap.next h_21) 2) ?_;refine oLi 36 63 hF fun t36 hF=>?_;refine oF 37 90 2 hF fun t37 hF=>?_;refine oLi 38 63 hF fun t38 hF=>?_;refine oI 39 .u64 hF fun t39 hF=>?_;refine oA 40 (AV.ptr (AHeap.next h_21) 2) ?_;refine oW 63 (.int .u64 t39) hF fun h_59 hF=>?_;refine oV [(6,(z6 h_4)),(7,(z6 h_21))] ?_;exact gW _ (J46 _ hF)
   |false=>
    refine oU hF fun hF=>?_;refine oZ ?_;exact gW _ (J46 _ hF)
  cases t26 with
  |true=>
   refine oT hF fun hF=>?_;refine W.r ?_;refine oA 27 (AV.ptr (AHeap.next h_21) 1) ?_;refine oLi 28 63 hF fun t28 hF=>?_;refine oF 29 90 1 hF fun t29 hF=>?_;refine oLi 30 63 hF fun t30 hF=>?_;refine oI 31 .u64 hF fun t31 hF=>?_;refine oA 32 (AV.ptr (AHeap.next h_21) 1) ?_;refine oW 63 (.int .u64 t31) hF fun h_67 hF=>?_;refine oV [(4,v4),(5,v5),(6,(z6 h_4)),(7,(z6 h_21))] ?_;exact gW _ (J39 _ hF)
  |false=>
   refine oU hF fun hF=>?_;refine oZ ?_;exact gW _ (J39 _ hF)
 cases t15 with
 |true=>
  replace hF:=zc3 hF
  refine oF 17 90 0 hF fun t17 hF=>?_;refine oLb 18 4 hF fun t18 hF=>?_;refine oA 19 (.bool t18) ?_;exact lW _ (J23 _ _ hF)
 |false=>
  replace hF:=zc4 hF
  refine WL.o (some 17) ?_;refine WL.o (some 18) ?_;refine oA 19 (.bool false) ?_;exact lW _ (J23 _ _ hF)
noncomputable def z5d(t0:AV)(t1:Int)(t2:Int)(k3:AHeap→R)(self:Int→AHeap→R)(t7:Int)(h_6:AHeap):R:=lett (decide (t7<64)) fun (t8:Bool)=>ifB t8 (obind (shrI .u64 t1 t7) fun t12=>lett (z3ba .u64 t12 1) fun (t13:Int)=>lett ((t13:Int) == 1) fun (t14:Bool)=>lett (fun (h_18:AHeap)=>lett (IntKind.i64.wrap (t7+1)) fun (t29:Int)=>self t29 h_18) fun k17=>ifB t14 (obind (z74 t0) fun t16=>obind (z49 0 t16) fun t17=>obind (z7 h_6 t17) fun v18=>obind (z74 v18) fun t20=>obind (z49 3 t20) fun t21=>obind (z313 64 1 t21 t7) fun t22=>obind (z7 h_6 t22) fun v23=>obind (avInt .u64 v23) fun t23=>lett (orI .u64 t23 t2) fun (t25:Int)=>obind (z74 v18) fun t26=>obind (z49 3 t26) fun t27=>obind (z313 64 1 t27 t7) fun t28=>obind (z15 h_6 1 [.int .u64 t25] t28) fun h_32=>k17 h_32) (k17 h_6)) (k3 h_6)
noncomputable def z69(t0:AV)(t1:Int)(t2:Int)(k3:AHeap→R):Nat→Int→AHeap→R:=ze6 (fun _ _=>none) (z5d t0 t1 t2 k3)
theorem zae(t0:AV)(t1:Int)(t2:Int)(k3:AHeap→R)(m:Nat):z69 t0 t1 t2 k3 (m+1)=z5d t0 t1 t2 k3 (z69 t0 t1 t2 k3 m):=rfl
noncomputable def z70(_:zc)(n:Nat)(t0:AV)(t1:Int)(t2:Int)(h:AHeap):R:=lett (fun (h_4:AHeap)=>some (.ret (.tup []),h_4)) fun k3=>z69 t0 t1 t2 k3 n 0 h
set_option maxHeartbeats 4000000 in
set_option maxRecDepth 20000 in
theorem z1b9{call:zc}(hc:SaysAll Tryd.prog call){n:Nat}{t0:AV}{t1:Int}{t2:Int}{h:AHeap}{rR:ARes}{hR:AHeap}(hF:z70 call n t0 t1 t2 h=some (rR,hR)):Says Tryd.prog 59 [t0,.int .u64 t1,.int .u64 t2] h rR hR:=by
 unfold z70 at hF;refine sO Tryd.func59 fun w0 m0=>?_;refine wW [(0,t0),(1,.int .u64 t1),(2,.int .u64 t2)] ?_;refine oG fun n1=>W.r ?_;refine oA 7 (.int .i64 0) ?_;refine oV [(0,t0),(1,.int .u64 t1),(2,.int .u64 t2),(7,.int .i64 0)] (n1 ?_);obtain⟨k3,e3,hF⟩:=z9 hF
 have J3:∀(h_4:AHeap),k3 h_4=some (rR,hR)→Go w0 m0 (Func.ntmps Tryd.f59) (Fin Tryd.prog Tryd.f59 w0 m0 rR hR .normal) [] [] h_4:=by
  intro h_4 hF;rw[e3] at hF;exact lY hF [] [] zd
 refine yc (by kernel_rfl) (fun K2 n2 s2 o2 q2 p2=>?_);refine y14 (by kernel_rfl) (fun I5 K5 b5 n5 e5 q5 p5=>?_)
 have L5:∀(m:Nat) (t7:Int) (h_6:AHeap),z69 t0 t1 t2 k3 m t7 h_6=some (rR,hR)→Go w0 m0 (Func.ntmps Tryd.f59) I5 [(0,t0),(1,.int .u64 t1),(2,.int .u64 t2),(7,.int .i64 t7)] [] h_6:=by
  intro m
  induction m with
  |zero=>intro t7 h_6 hF;cases hF
  |succ m ih5=>
   intro t7 h_6 hF;rw[zae] at hF;unfold z5d at hF;refine b5 ?_;refine oG fun n7=>W.r ?_;refine oB 8 hF fun t8 hF=>?_;refine oV [(0,t0),(1,.int .u64 t1),(2,.int .u64 t2),(7,.int .i64 t7),(8,.bool t8)] (n7 ?_);refine W.s (fun K9 n9 e9 q9 p9=>?_)
   cases t8 with
   |true=>
    refine oT hF fun hF=>?_;refine oZ (n9 ?_);refine oG fun n10=>?_;refine yc (by kernel_rfl) (fun K11 n11 s11 o11 q11 p11=>?_);refine oG fun n12=>W.r ?_;refine oA 9 (.int .i64 t7) ?_;refine oA 6 (.int .i64 t7) ?_;refine oV [(0,t0),(1,.int .u64 t1),(2,.int .u64 t2),(6,.int .i64 t7),(7,.int .i64 t7)] (n12 ?_);refine oG fun n13=>W.r ?_;refine oA 10 (.int .u64 t1) ?_;refine oA 11 (.int .i64 t7) ?_;obtain⟨t12,e14,hF⟩:=z3 hF;refine WL.b (some 12) (.int .u64 t12) h_6 (z3cb (P:=Tryd.prog) (h:=h_6) (t:=63) (k':=.i64) (lit:=false) e14) ?_;refine oI 13 .u64 hF fun t13 hF=>?_;refine oB 14 hF fun t14 hF=>?_;refine oV [(0,t0),(1,.int .u64 t1),(2,.int .u64 t2),(6,.int .i64 t7),(7,.int .i64 t7),(14,.bool t14)] (n13 ?_);obtain⟨k17,e17,hF⟩:=z9 hF
    have J17:∀(h_18:AHeap),k17 h_18=some (rR,hR)→Go w0 m0 (Func.ntmps Tryd.f59) (K11 .normal) [(0,t0),(1,.int .u64 t1),(2,.int .u64 t2),(7,.int .i64 t7)] [] h_18:=by
     intro h_18 hF;rw[e17] at hF;refine n11 (n10 (W.r ?_));refine oI 29 .i64 hF fun t29 hF=>?_;refine oA 7 (.int .i64 t29) ?_;refine oV [(0,t0),(1,.int .u64 t1),(2,.int .u64 t2),(7,.int .i64 t29)] (n5 ?_);exact gW _ (ih5 _ _ hF)
    cases t14 with
    |true=>
     refine oT hF fun hF=>?_;refine y21 (by kernel_rfl) (hc.ok w0) (plan:=[0,1,2,3,4,5,6,7,8,9,10,11,12,13,14]) (by kernel_rfl) (by kernel_rfl) (by kernel_rfl) ?_;refine WD.a 0 (some 15) t0 h_6 ?_;obtain⟨t16,e20,hF⟩:=z3 hF;refine WD.b 0 (some 16) t16 h_6 (z2c (h:=h_6) e20) ?_;obtain⟨t17,e21,hF⟩:=z3 hF;refine WD.b 0 (some 17) t17 h_6 (z1b (P:=Tryd.prog) (h:=h_6) (s:=88) (f:=0) (by kernel_rfl) e21) ?_;obtain⟨v18,e22,hF⟩:=z3 hF;refine WD.b 1 (some 18) v18 h_6 (z14 (P:=Tryd.prog) (h:=h_6) (t:=47) (by kernel_rfl) e22) ?_;refine WD.a 0 (some 19) (.int .i64 t7) h_6 ?_;obtain⟨t20,e23,hF⟩:=z3 hF;refine WD.b 0 (some 20) t20 h_6 (z2c (h:=h_6) e23) ?_;obtain⟨t21,e24,hF⟩:=z3 hF;refine WD.b 0 (some 21) t21 h_6 (z1b (P:=Tryd.prog) (h:=h_6) (s:=86) (f:=3) (by kernel_rfl) e24) ?_;obtain⟨t22,e25,hF⟩:=z3 hF;refine WD.b 0 (some 22) t22 h_6 (zec (P:=Tryd.prog) (h:=h_6) (t:=83) (e':=63) (k:=.i64) (by kernel_rfl) (by kernel_rfl) (by kernel_rfl) e25) ?_
     replace hF:=z3 hF;obtain⟨v23,e26,hF⟩:=hF
     replace hF:=z3 hF;obtain⟨t23,c27,hF⟩:=hF
     have c27:=z17 c27;subst c27;refine WD.b 1 (some 23) (.int .u64 t23) h_6 (z14 (P:=Tryd.prog) (h:=h_6) (t:=63) (by kernel_rfl) e26) ?_;refine WD.a 0 (some 24) (.int .u64 t2) h_6 ?_;obtain⟨t25,e28,hF⟩:=z9 hF;refine WD.val (d:=(some 25)) (v:=.int .u64 t25) (h':=h_6) (by kernel_rfl) (by kernel_rfl) (z108 (AV.int .u64) e28 (by kernel_rfl)) (k:=0) (by kernel_rfl) (fun e=>absurd e (by decide)) (by decide) ?_;obtain⟨t26,e29,hF⟩:=z3 hF;refine WD.b 0 (some 26) t26 h_6 (z2c (h:=h_6) e29) ?_;obtain⟨t27,e30,hF⟩:=z3 hF;refine WD.b 0 (some 27) t27 h_6 (z1b (P:=Tryd.prog) (h:=h_6) (s:=86) (f:=3) (by kernel_rfl) e30) ?_;obtain⟨t28,e31,hF⟩:=z3 hF;refine WD.b 0 (some 28) t28 h_6 (zec (P:=Tryd.prog) (h:=h_6) (t:=83) (e':=63) (k:=.i64) (by kernel_rfl) (by kernel_rfl) (by kernel_rfl) e31) ?_;obtain⟨h_32,e33,hF⟩:=z3 hF;refine WD.eff (h':=h_32) (by kernel_rfl) (by kernel_rfl) (Eq.trans (by kernel_rfl) (z3f (P:=Tryd.prog) (h:=h_6) (t:=63) (v:=(.int .u64 t25)) (by kernel_rfl) (by kernel_rfl) e33)) (k:=2) (by kernel_rfl) (fun _=>(by kernel_rfl)) (by decide) ?_;refine WD.nil ?_;refine gW [(0,t0),(1,.int .u64 t1),(2,.int .u64 t2),(7,.int .i64 t7)] ?_;exact gW _ (J17 _ hF)
    |false=>
     refine oU hF fun hF=>?_;refine oZ ?_;exact gW _ (J17 _ hF)
   |false=>
    refine oU hF fun hF=>?_;refine W.exit (by kernel_rfl) ?_;refine e9 (e5 ?_);refine s2 (by kernel_rfl) ?_;exact gW _ (J3 _ hF)
 exact gW _ (L5 _ _ _ hF)
noncomputable def zb7(t11:List AV)(k8:Int→AHeap→R)(self:Int→Int→AHeap→R)(t2_70:Int)(t12:Int)(h_71:AHeap):R:=lett (decide (t12<256)) fun (t13:Bool)=>ifB t13 (outK (zcc Tryd.prog h_71 84 (some (.agg t11)) (some (.int .i64 t12))) fun v14 h_78=>obind (avInt .u64 v14) fun t14=>lett (orI .u64 t2_70 t14) fun (t17:Int)=>lett (IntKind.i64.wrap (t12+1)) fun (t18:Int)=>self t17 t18 h_78) (k8 t2_70 h_71)
noncomputable def zcd(t11:List AV)(k8:Int→AHeap→R):Nat→Int→Int→AHeap→R:=ze6 (fun _ _ _=>none) (zb7 t11 k8)
theorem z11b(t11:List AV)(k8:Int→AHeap→R)(m:Nat):zcd t11 k8 (m+1)=zb7 t11 k8 (zcd t11 k8 m):=rfl
noncomputable def zf3(call:zc)(t0:AV)(t2:Int)(k19:Int→AHeap→R)(self:Int→Int→AHeap→R)(t5_56:Int)(t6:Int)(h_57:AHeap):R:=lett ((t6:Int) != 0) fun (t27:Bool)=>ifB t27 (callN (call 60 [t0,.int .u64 t5_56] h_57) fun r30 h_63=>obind (avInt .u64 r30) fun t30=>lett (z3ba .u64 t30 t2) fun (t32:Int)=>lett (z362 .u64 t32 t5_56) fun (t34:Int)=>lett (orI .u64 t5_56 t34) fun (t37:Int)=>self t37 t34 h_63) (k19 t5_56 h_57)
noncomputable def zce(call:zc)(t0:AV)(t2:Int)(k19:Int→AHeap→R):Nat→Int→Int→AHeap→R:=ze6 (fun _ _ _=>none) (zf3 call t0 t2 k19)
theorem z176(call:zc)(t0:AV)(t2:Int)(k19:Int→AHeap→R)(m:Nat):zce call t0 t2 k19 (m+1)=zf3 call t0 t2 k19 (zce call t0 t2 k19 m):=rfl
noncomputable def zb8(t0:AV)(t5:Int)(k33:AHeap→R)(self:Int→AHeap→R)(t46:Int)(h_36:AHeap):R:=lett (decide (t46<256)) fun (t47:Bool)=>ifB t47 (obind (z74 t0) fun t51=>obind (z49 67 t51) fun t52=>obind (z313 256 1 t52 t46) fun t53=>obind (z7 h_36 t53) fun v54=>obind (avInt .u64 v54) fun t54=>lett (z3ba .u64 t54 t5) fun (t56:Int)=>obind (z74 t0) fun t57=>obind (z49 67 t57) fun t58=>obind (z313 256 1 t58 t46) fun t59=>obind (z15 h_36 1 [.int .u64 t56] t59) fun h_52=>lett (IntKind.i64.wrap (t46+1)) fun (t60:Int)=>self t60 h_52) (k33 h_36)
noncomputable def zcf(t0:AV)(t5:Int)(k33:AHeap→R):Nat→Int→AHeap→R:=ze6 (fun _ _=>none) (zb8 t0 t5 k33)
theorem z11c(t0:AV)(t5:Int)(k33:AHeap→R)(m:Nat):zcf t0 t5 k33 (m+1)=zb8 t0 t5 k33 (zcf t0 t5 k33 m):=rfl
noncomputable def z103(call:zc)(n:Nat)(t0:AV)(h:AHeap):R:=obind (z74 t0) fun t9=>obind (z49 67 t9) fun t10=>obind (z16 h 256 t10) fun t11=>lett (fun (t2:Int) (h_9:AHeap)=>obind (z74 t0) fun t20=>obind (z49 2 t20) fun t21=>obind (z7 h_9 t21) fun v22=>obind (avInt .u64 v22) fun t22=>lett (z3ba .u64 t22 t2) fun (t24:Int)=>lett (fun (t5:Int) (h_20:AHeap)=>obind (z74 t0) fun t39=>obind (z49 1 t39) fun t40=>obind (z7 h_20 t40) fun v41=>obind (avInt .u64 v41) fun t41=>lett (z3ba .u64 t41 t5) fun (t43:Int)=>obind (z74 t0) fun t44=>obind (z49 1 t44) fun t45=>obind (z15 h_20 1 [.int .u64 t43] t45) fun h_29=>lett (fun (h_34:AHeap)=>some (.ret (.tup []),h_34)) fun k33=>zcf t0 t5 k33 n 0 h_29) fun k19=>zce call t0 t2 k19 n t24 t24 h_9) fun k8=>zcd t11 k8 n 0 0 h
set_option maxHeartbeats 4000000 in
set_option maxRecDepth 20000 in
theorem z2b5{call:zc}(hc:SaysAll Tryd.prog call){n:Nat}{t0:AV}{h:AHeap}{rR:ARes}{hR:AHeap}(hF:z103 call n t0 h=some (rR,hR)):Says Tryd.prog 38 [t0] h rR hR:=by
 unfold z103 at hF;refine sO Tryd.func38 fun w0 m0=>?_;refine wW [(0,t0)] ?_;refine oG fun n1=>W.r ?_;refine oA 2 (.int .u64 0) ?_;refine oV [(0,t0),(2,.int .u64 0)] (n1 ?_);refine W.s (fun K2 n2 e2 q2 p2=>?_);refine oG fun n3=>W.r ?_;refine oA 8 t0 ?_;refine oC0 9 hF fun t9 hF=>?_;refine oF 10 86 4 hF fun t10 hF=>?_;refine oR 11 84 hF fun t11 hF=>?_;refine oA 12 (.int .i64 0) ?_;refine oV [(0,t0),(2,.int .u64 0),(11,.agg t11),(12,.int .i64 0)] (n3 ?_);obtain⟨k8,e8,hF⟩:=z9 hF
 have J8:∀(t2:Int) (h_9:AHeap),k8 t2 h_9=some (rR,hR)→Go w0 m0 (Func.ntmps Tryd.f38) (K2 .normal) [(0,t0),(2,.int .u64 t2)] [] h_9:=by
  intro t2 h_9 hF;rw[e8] at hF;refine n2 ?_;refine oG fun n10=>W.r ?_;refine oA 19 t0 ?_;refine oC0 20 hF fun t20 hF=>?_;refine oF 21 86 2 hF fun t21 hF=>?_;refine oLi 22 63 hF fun t22 hF=>?_;refine oA 23 (.int .u64 t2) ?_;refine oI 24 .u64 hF fun t24 hF=>?_;refine oA 5 (.int .u64 t24) ?_;refine oV [(0,t0),(2,.int .u64 t2),(5,.int .u64 t24)] (n10 ?_);refine W.s (fun K16 n16 e16 q16 p16=>?_);refine oG fun n17=>W.r ?_;refine oA 25 (.int .u64 t24) ?_;refine oA 6 (.int .u64 t24) ?_;refine oV [(0,t0),(2,.int .u64 t2),(5,.int .u64 t24),(6,.int .u64 t24)] (n17 ?_);obtain⟨k19,e19,hF⟩:=z9 hF
  have J19:∀(t5:Int) (h_20:AHeap),k19 t5 h_20=some (rR,hR)→Go w0 m0 (Func.ntmps Tryd.f38) (K16 .normal) [(0,t0),(5,.int .u64 t5)] [] h_20:=by
   intro t5 h_20 hF;rw[e19] at hF;refine n16 ?_;refine oG fun n21=>W.r ?_;refine oA 38 t0 ?_;refine oC0 39 hF fun t39 hF=>?_;refine oF 40 86 1 hF fun t40 hF=>?_;refine oLi 41 63 hF fun t41 hF=>?_;refine oA 42 (.int .u64 t5) ?_;refine oI 43 .u64 hF fun t43 hF=>?_;refine oC0 44 hF fun t44 hF=>?_;refine oF 45 86 1 hF fun t45 hF=>?_;refine oW 63 (.int .u64 t43) hF fun h_29 hF=>?_;refine oV [(0,t0),(5,.int .u64 t5)] (n21 ?_);refine oG fun n31=>W.r ?_;refine oA 46 (.int .i64 0) ?_;refine oV [(0,t0),(5,.int .u64 t5),(46,.int .i64 0)] (n31 ?_);obtain⟨k33,e33,hF⟩:=z9 hF
   have J33:∀(h_34:AHeap),k33 h_34=some (rR,hR)→Go w0 m0 (Func.ntmps Tryd.f38) (Fin Tryd.prog Tryd.f38 w0 m0 rR hR .normal) [] [] h_34:=by
    intro h_34 hF;rw[e33] at hF;exact lY hF [] [] zd
   refine yc (by kernel_rfl) (fun K32 n32 s32 o32 q32 p32=>?_);refine y14 (by kernel_rfl) (fun I35 K35 b35 n35 e35 q35 p35=>?_)
   have L35:∀(m:Nat) (t46:Int) (h_36:AHeap),zcf t0 t5 k33 m t46 h_36=some (rR,hR)→Go w0 m0 (Func.ntmps Tryd.f38) I35 [(0,t0),(5,.int .u64 t5),(46,.int .i64 t46)] [] h_36:=by
    intro m
    induction m with
    |zero=>intro t46 h_36 hF;cases hF
    |succ m ih35=>
     intro t46 h_36 hF;rw[z11c] at hF;unfold zb8 at hF;refine b35 ?_;refine oG fun n37=>W.r ?_;refine oB 47 hF fun t47 hF=>?_;refine oV [(0,t0),(5,.int .u64 t5),(46,.int .i64 t46),(47,.bool t47)] (n37 ?_);refine W.s (fun K39 n39 e39 q39 p39=>?_)
     cases t47 with
     |true=>
      refine oT hF fun hF=>?_;refine oZ (n39 ?_);refine oG fun n40=>?_;refine yc (by kernel_rfl) (fun K41 n41 s41 o41 q41 p41=>?_);refine oG fun n42=>W.r ?_;refine oA 48 (.int .i64 t46) ?_;refine oA 7 (.int .i64 t46) ?_;refine oV [(0,t0),(5,.int .u64 t5),(7,.int .i64 t46),(46,.int .i64 t46)] (n42 ?_);refine y21 (by kernel_rfl) (hc.ok w0) (plan:=[0,1,2,3,4,5,6,7,8,9,10,11]) (by kernel_rfl) (by kernel_rfl) (by kernel_rfl) ?_;refine WD.a 0 (some 49) t0 h_36 ?_;refine WD.a 0 (some 50) (.int .i64 t46) h_36 ?_;obtain⟨t51,e43,hF⟩:=z3 hF;refine WD.b 0 (some 51) t51 h_36 (z2c (h:=h_36) e43) ?_;obtain⟨t52,e44,hF⟩:=z3 hF;refine WD.b 0 (some 52) t52 h_36 (z1b (P:=Tryd.prog) (h:=h_36) (s:=86) (f:=4) (by kernel_rfl) e44) ?_;obtain⟨t53,e45,hF⟩:=z3 hF;refine WD.b 0 (some 53) t53 h_36 (zec (P:=Tryd.prog) (h:=h_36) (t:=84) (e':=63) (k:=.i64) (by kernel_rfl) (by kernel_rfl) (by kernel_rfl) e45) ?_
      replace hF:=z3 hF;obtain⟨v54,e46,hF⟩:=hF
      replace hF:=z3 hF;obtain⟨t54,c47,hF⟩:=hF
      have c47:=z17 c47;subst c47;refine WD.b 1 (some 54) (.int .u64 t54) h_36 (z14 (P:=Tryd.prog) (h:=h_36) (t:=63) (by kernel_rfl) e46) ?_;refine WD.a 0 (some 55) (.int .u64 t5) h_36 ?_;obtain⟨t56,e48,hF⟩:=z9 hF;refine WD.val (d:=(some 56)) (v:=.int .u64 t56) (h':=h_36) (by kernel_rfl) (by kernel_rfl) (z108 (AV.int .u64) e48 (by kernel_rfl)) (k:=0) (by kernel_rfl) (fun e=>absurd e (by decide)) (by decide) ?_;obtain⟨t57,e49,hF⟩:=z3 hF;refine WD.b 0 (some 57) t57 h_36 (z2c (h:=h_36) e49) ?_;obtain⟨t58,e50,hF⟩:=z3 hF;refine WD.b 0 (some 58) t58 h_36 (z1b (P:=Tryd.prog) (h:=h_36) (s:=86) (f:=4) (by kernel_rfl) e50) ?_;obtain⟨t59,e51,hF⟩:=z3 hF;refine WD.b 0 (some 59) t59 h_36 (zec (P:=Tryd.prog) (h:=h_36) (t:=84) (e':=63) (k:=.i64) (by kernel_rfl) (by kernel_rfl) (by kernel_rfl) e51) ?_;obtain⟨h_52,e53,hF⟩:=z3 hF;refine WD.eff (h':=h_52) (by kernel_rfl) (by kernel_rfl) (Eq.trans (by kernel_rfl) (z3f (P:=Tryd.prog) (h:=h_36) (t:=63) (v:=(.int .u64 t56)) (by kernel_rfl) (by kernel_rfl) e53)) (k:=2) (by kernel_rfl) (fun _=>(by kernel_rfl)) (by decide) ?_;refine WD.nil ?_;refine gW [(0,t0),(5,.int .u64 t5),(46,.int .i64 t46)] (n41 (n40 (W.r ?_)));refine oI 60 .i64 hF fun t60 hF=>?_;refine oA 46 (.int .i64 t60) ?_;refine oV [(0,t0),(5,.int .u64 t5),(46,.int .i64 t60)] (n35 ?_);exact gW _ (ih35 _ _ hF)
     |false=>
      refine oU hF fun hF=>?_;refine W.exit (by kernel_rfl) ?_;refine e39 (e35 ?_);refine s32 (by kernel_rfl) ?_;exact gW _ (J33 _ hF)
   exact gW _ (L35 _ _ _ hF)
  refine yc (by kernel_rfl) (fun K18 n18 s18 o18 q18 p18=>?_);refine y14 (by kernel_rfl) (fun I55 K55 b55 n55 e55 q55 p55=>?_)
  have L55:∀(m:Nat) (t5_56:Int) (t6:Int) (h_57:AHeap),zce call t0 t2 k19 m t5_56 t6 h_57=some (rR,hR)→Go w0 m0 (Func.ntmps Tryd.f38) I55 [(0,t0),(2,.int .u64 t2),(5,.int .u64 t5_56),(6,.int .u64 t6)] [] h_57:=by
   intro m
   induction m with
   |zero=>intro t5_56 t6 h_57 hF;cases hF
   |succ m ih55=>
    intro t5_56 t6 h_57 hF;rw[z176] at hF;unfold zf3 at hF;refine b55 ?_;refine W.s (fun K58 n58 e58 q58 p58=>?_);refine oG fun n59=>W.r ?_;refine oA 26 (.int .u64 t6) ?_;refine oB 27 hF fun t27 hF=>?_;refine oV [(0,t0),(2,.int .u64 t2),(5,.int .u64 t5_56),(27,.bool t27)] (n59 ?_)
    cases t27 with
    |true=>
     refine oT hF fun hF=>?_;refine oZ (n58 ?_);refine yc (by kernel_rfl) (fun K61 n61 s61 o61 q61 p61=>?_);refine oG fun n62=>W.r ?_;refine oA 28 t0 ?_;refine oA 29 (.int .u64 t5_56) ?_;refine oCi hc 30 hF fun t30 h_63 hF=>?_;refine oA 31 (.int .u64 t2) ?_;refine oI 32 .u64 hF fun t32 hF=>?_;refine oA 33 (.int .u64 t5_56) ?_;refine oI 34 .u64 hF fun t34 hF=>?_;refine oA 6 (.int .u64 t34) ?_;refine oV [(0,t0),(2,.int .u64 t2),(5,.int .u64 t5_56),(6,.int .u64 t34)] (n62 (W.r ?_));refine oA 35 (.int .u64 t5_56) ?_;refine oA 36 (.int .u64 t34) ?_;refine oI 37 .u64 hF fun t37 hF=>?_;refine oA 5 (.int .u64 t37) ?_;refine oV [(0,t0),(2,.int .u64 t2),(5,.int .u64 t37),(6,.int .u64 t34)] (n61 (n55 ?_));exact gW _ (ih55 _ _ _ hF)
    |false=>
     refine oU hF fun hF=>?_;refine W.exit (by kernel_rfl) ?_;refine e58 (e55 ?_);refine s18 (by kernel_rfl) ?_;exact gW _ (J19 _ _ hF)
  exact gW _ (L55 _ _ _ _ hF)
 refine yc (by kernel_rfl) (fun K7 n7 s7 o7 q7 p7=>?_);refine y14 (by kernel_rfl) (fun I69 K69 b69 n69 e69 q69 p69=>?_)
 have L69:∀(m:Nat) (t2_70:Int) (t12:Int) (h_71:AHeap),zcd t11 k8 m t2_70 t12 h_71=some (rR,hR)→Go w0 m0 (Func.ntmps Tryd.f38) I69 [(0,t0),(2,.int .u64 t2_70),(11,.agg t11),(12,.int .i64 t12)] [] h_71:=by
  intro m
  induction m with
  |zero=>intro t2_70 t12 h_71 hF;cases hF
  |succ m ih69=>
   intro t2_70 t12 h_71 hF;rw[z11b] at hF;unfold zb7 at hF;refine b69 ?_;refine oG fun n72=>W.r ?_;refine oB 13 hF fun t13 hF=>?_;refine oV [(0,t0),(2,.int .u64 t2_70),(11,.agg t11),(12,.int .i64 t12),(13,.bool t13)] (n72 ?_);refine W.s (fun K74 n74 e74 q74 p74=>?_)
   cases t13 with
   |true=>
    refine oT hF fun hF=>?_;refine oZ (n74 ?_);refine oG fun n75=>?_;refine yc (by kernel_rfl) (fun K76 n76 s76 o76 q76 p76=>?_);refine oG fun n77=>W.r ?_
    replace hF:=z3c hF;obtain⟨v14,h_78,e79,hF⟩:=hF
    replace hF:=z3 hF;obtain⟨t14,c80,hF⟩:=hF
    have c80:=z17 c80;subst c80;refine WL.b (some 14) (.int .u64 t14) h_78 e79 ?_;refine oA 4 (.int .u64 t14) ?_;refine oV [(0,t0),(2,.int .u64 t2_70),(4,.int .u64 t14),(11,.agg t11),(12,.int .i64 t12)] (n77 (W.r ?_));refine oA 15 (.int .u64 t2_70) ?_;refine oA 16 (.int .u64 t14) ?_;refine oI 17 .u64 hF fun t17 hF=>?_;refine oA 2 (.int .u64 t17) ?_;refine oV [(0,t0),(2,.int .u64 t17),(11,.agg t11),(12,.int .i64 t12)] (n76 (n75 (W.r ?_)));refine oI 18 .i64 hF fun t18 hF=>?_;refine oA 12 (.int .i64 t18) ?_;refine oV [(0,t0),(2,.int .u64 t17),(11,.agg t11),(12,.int .i64 t18)] (n69 ?_);exact gW _ (ih69 _ _ _ hF)
   |false=>
    refine oU hF fun hF=>?_;refine W.exit (by kernel_rfl) ?_;refine e74 (e69 ?_);refine s7 (by kernel_rfl) ?_;exact gW _ (J8 _ _ hF)
 exact gW _ (L69 _ _ _ _ hF)
noncomputable def za2(t1:Int)(t11:List AV)(k9:Int→AHeap→R)(self:Int→Int→AHeap→R)(t5_13:Int)(t12:Int)(h_14:AHeap):R:=lett (decide (t12<64)) fun (t13:Bool)=>ifB t13 (outK (zcc Tryd.prog h_14 83 (some (.agg t11)) (some (.int .i64 t12))) fun v15 h_21=>obind (avInt .u64 v15) fun t15=>lett (z3ba .u64 t15 t1) fun (t18:Int)=>lett ((t18:Int) != 0) fun (t19:Bool)=>lett (fun (t5_28:Int) (h_29:AHeap)=>lett (IntKind.i64.wrap (t12+1)) fun (t24:Int)=>self t5_28 t24 h_29) fun k27=>ifB t19 (obind (shlI .u64 1 t12) fun t22=>lett (orI .u64 t5_13 t22) fun (t23:Int)=>k27 t23 h_21) (k27 t5_13 h_21)) (k9 t5_13 h_14)
noncomputable def zb9(t1:Int)(t11:List AV)(k9:Int→AHeap→R):Nat→Int→Int→AHeap→R:=ze6 (fun _ _ _=>none) (za2 t1 t11 k9)
theorem z10a(t1:Int)(t11:List AV)(k9:Int→AHeap→R)(m:Nat):zb9 t1 t11 k9 (m+1)=za2 t1 t11 k9 (zb9 t1 t11 k9 m):=rfl
noncomputable def zdb(_:zc)(n:Nat)(t0:AV)(t1:Int)(h:AHeap):R:=obind (z74 t0) fun t9=>obind (z49 3 t9) fun t10=>obind (z16 h 64 t10) fun t11=>lett (fun (t5:Int) (h_10:AHeap)=>some (.ret (.int .u64 t5),h_10)) fun k9=>zb9 t1 t11 k9 n 0 0 h
set_option maxHeartbeats 4000000 in
set_option maxRecDepth 20000 in
theorem z286{call:zc}(_:SaysAll Tryd.prog call){n:Nat}{t0:AV}{t1:Int}{h:AHeap}{rR:ARes}{hR:AHeap}(hF:zdb call n t0 t1 h=some (rR,hR)):Says Tryd.prog 60 [t0,.int .u64 t1] h rR hR:=by
 unfold zdb at hF;refine sO Tryd.func60 fun w0 m0=>?_;refine wW [(0,t0),(1,.int .u64 t1)] ?_;refine oG fun n1=>W.r ?_;refine oA 4 (.int .u64 0) ?_;refine oV [(0,t0),(1,.int .u64 t1)] (n1 ?_);refine oG fun n2=>W.r ?_;refine oA 5 (.int .u64 0) ?_;refine oV [(0,t0),(1,.int .u64 t1),(5,.int .u64 0)] (n2 ?_);refine W.s (fun K3 n3 e3 q3 p3=>?_);refine oG fun n4=>W.r ?_;refine oA 8 t0 ?_;refine oC0 9 hF fun t9 hF=>?_;refine oF 10 86 3 hF fun t10 hF=>?_;refine oR 11 83 hF fun t11 hF=>?_;refine oA 12 (.int .i64 0) ?_;refine oV [(1,.int .u64 t1),(5,.int .u64 0),(11,.agg t11),(12,.int .i64 0)] (n4 ?_);obtain⟨k9,e9,hF⟩:=z9 hF
 have J9:∀(t5:Int) (h_10:AHeap),k9 t5 h_10=some (rR,hR)→Go w0 m0 (Func.ntmps Tryd.f60) (K3 .normal) [(5,.int .u64 t5)] [] h_10:=by
  intro t5 h_10 hF;rw[e9] at hF;refine n3 ?_;refine oG fun n11=>W.r ?_;refine oA 25 (.int .u64 t5) ?_;refine oA 4 (.int .u64 t5) ?_;refine oV [(4,.int .u64 t5)] (n11 (oY ?_));exact lZ hF [.tmp 4] [.int .u64 t5] (rT zd)
 refine yc (by kernel_rfl) (fun K8 n8 s8 o8 q8 p8=>?_);refine y14 (by kernel_rfl) (fun I12 K12 b12 n12 e12 q12 p12=>?_)
 have L12:∀(m:Nat) (t5_13:Int) (t12:Int) (h_14:AHeap),zb9 t1 t11 k9 m t5_13 t12 h_14=some (rR,hR)→Go w0 m0 (Func.ntmps Tryd.f60) I12 [(1,.int .u64 t1),(5,.int .u64 t5_13),(11,.agg t11),(12,.int .i64 t12)] [] h_14:=by
  intro m
  induction m with
  |zero=>intro t5_13 t12 h_14 hF;cases hF
  |succ m ih12=>
   intro t5_13 t12 h_14 hF;rw[z10a] at hF;unfold za2 at hF;refine b12 ?_;refine oG fun n15=>W.r ?_;refine oB 13 hF fun t13 hF=>?_;refine oV [(1,.int .u64 t1),(5,.int .u64 t5_13),(11,.agg t11),(12,.int .i64 t12),(13,.bool t13)] (n15 ?_);refine W.s (fun K17 n17 e17 q17 p17=>?_)
   cases t13 with
   |true=>
    refine oT hF fun hF=>?_;refine oZ (n17 ?_);refine oG fun n18=>?_;refine yc (by kernel_rfl) (fun K19 n19 s19 o19 q19 p19=>?_);refine oG fun n20=>W.r ?_;refine oA 14 (.int .i64 t12) ?_
    replace hF:=z3c hF;obtain⟨v15,h_21,e22,hF⟩:=hF
    replace hF:=z3 hF;obtain⟨t15,c23,hF⟩:=hF
    have c23:=z17 c23;subst c23;refine WL.b (some 15) (.int .u64 t15) h_21 e22 ?_;refine oA 6 (.int .i64 t12) ?_;refine oA 7 (.int .u64 t15) ?_;refine oV [(1,.int .u64 t1),(5,.int .u64 t5_13),(6,.int .i64 t12),(7,.int .u64 t15),(11,.agg t11),(12,.int .i64 t12)] (n20 ?_);refine oG fun n24=>W.r ?_;refine oA 16 (.int .u64 t15) ?_;refine oA 17 (.int .u64 t1) ?_;refine oI 18 .u64 hF fun t18 hF=>?_;refine oB 19 hF fun t19 hF=>?_;refine oV [(1,.int .u64 t1),(5,.int .u64 t5_13),(6,.int .i64 t12),(11,.agg t11),(12,.int .i64 t12),(19,.bool t19)] (n24 ?_);obtain⟨k27,e27,hF⟩:=z9 hF
    have J27:∀(t5_28:Int) (h_29:AHeap),k27 t5_28 h_29=some (rR,hR)→Go w0 m0 (Func.ntmps Tryd.f60) (K19 .normal) [(1,.int .u64 t1),(5,.int .u64 t5_28),(11,.agg t11),(12,.int .i64 t12)] [] h_29:=by
     intro t5_28 h_29 hF;rw[e27] at hF;refine n19 (n18 (W.r ?_));refine oI 24 .i64 hF fun t24 hF=>?_;refine oA 12 (.int .i64 t24) ?_;refine oV [(1,.int .u64 t1),(5,.int .u64 t5_28),(11,.agg t11),(12,.int .i64 t24)] (n12 ?_);exact gW _ (ih12 _ _ _ hF)
    cases t19 with
    |true=>
     refine oT hF fun hF=>?_;refine W.r ?_;refine oA 20 (.int .u64 t5_13) ?_;refine oA 21 (.int .i64 t12) ?_;obtain⟨t22,e31,hF⟩:=z3 hF;refine WL.b (some 22) (.int .u64 t22) h_21 (z3cd (P:=Tryd.prog) (h:=h_21) (t:=63) (k':=.i64) (lit:=true) e31) ?_;refine oI 23 .u64 hF fun t23 hF=>?_;refine oA 5 (.int .u64 t23) ?_;refine oV [(1,.int .u64 t1),(5,.int .u64 t23),(11,.agg t11),(12,.int .i64 t12)] ?_;exact gW _ (J27 _ _ hF)
    |false=>
     refine oU hF fun hF=>?_;refine oZ ?_;exact gW _ (J27 _ _ hF)
   |false=>
    refine oU hF fun hF=>?_;refine W.exit (by kernel_rfl) ?_;refine e17 (e12 ?_);refine s8 (by kernel_rfl) ?_;exact gW _ (J9 _ _ hF)
 exact gW _ (L12 _ _ _ _ hF)
end Go.Proofs.YtcahhjjnihipdaaDoor
