/- What snapKept_proved stands on, part 5 of 8. -/
import Derived.Test.YtpnccmlajhhpdaaSK4
import Derived.Test.YtpnccmlajhhpdaaRows
import Derived.WalkKit
import Derived.ProofKit
import Derived.OpenShut
import Derived.SizedLaws
import Derived.SliceStrings
namespace Go.Proofs.Ytpnccmlajhhpdaa
open Go.ChangeShapes Go.WideShapes Go.ChangeAt Go.RowKit
open Go.ChangeMaps (open_string shut_string)
theorem Try.own : ownKnob Try.prog.godebug = none := by kernel_rfl
theorem Try.laidOut : laidOutB Try.prog = true := by kernel_rfl
section
variable {H : Type} {enc : TypeId × Value → H}
theorem stays {P : Program} (hP : laidOutB P = true) {W W' : World} (hb : Below W.heap.size W W') (ts : List TypeId) : ∀ (vs : List Value) (ds : List (DataW H)) (ps : List MemPlace),
  DataW.TrodAll enc P W 0 (fun _ => true) true ts vs ds ps → (∀ t ∈ ts, P.readableRec t = true ∧ t < P.types.size) → (∀ x ∈ ps, x.block < W.heap.size) →
  DataW.TrodAll enc P W' 0 (fun b => decide (b < W.heap.size)) true ts vs ds ps := by
 induction ts with
 | nil =>
  intro vs ds ps h _ _
  obtain ⟨rfl, rfl, rfl⟩ := trodAll_nil h
  exact trodAll_mk0
 | cons t ts ih =>
  intro vs ds ps h hr hlt
  obtain ⟨v, vs', d, ds', p, q, rfl, rfl, rfl, h1, h2⟩ := trodAll_cons h
  obtain ⟨hr1, hr2⟩ := hr t (List.mem_cons_self ..)
  exact trodAll_cons_mk (Below.trod hP hr1 hr2 h1 hb (fun x hx => hlt x (List.mem_append_left _ hx))) (ih _ _ _ h2 (fun t ht => hr t (List.mem_cons_of_mem _ ht)) (fun x hx => hlt x (List.mem_append_right _ hx)))
theorem readable_of {P : Program} {ts : List TypeId} (h : (ts.all fun t => P.readableRec t && decide (t < P.types.size)) = true) : ∀ t ∈ ts, P.readableRec t = true ∧ t < P.types.size := by
 intro t ht
 have h1 := List.all_eq_true.1 h t ht
 rw [Bool.and_eq_true] at h1
 exact ⟨h1.1, of_decide_eq_true h1.2⟩
set_option maxRecDepth 100000 in
theorem lifted_of {f : FuncId} {fn : Func} {s : ChangeSpec} (hfn : Try.prog.funcs[f]? = some fn) (noInit : Try.prog.inits.idxOf? f = none) (hvars : s.vars = []) (hres : fn.resultTypes = #[4])
  (hread : (fn.params.toList.all fun t => Try.prog.readableRec t && decide (t < Try.prog.types.size)) = true)
  (hspec : ∀ (args : List Value) (ds : List (DataW H)) (W : World) (p : List MemPlace), DataW.TrodAll enc Try.prog W 0 (fun _ => true) true fn.params.toList args ds p → (s.fn H (ds ++ [])).results = [.lit (.bool true)] ∧ (s.fn H (ds ++ [])).args = ds ∧ (s.fn H (ds ++ [])).vars = [])
  (hplain : s.plain.varTypes Try.prog = [])
  (os : Os) (started : os.Started)
  (witness : ∃ (w : World) (tape : Tape) (i : Input), w.os = os ∧ (w.forCall tape i).Shaped Try.prog ∧ i.vars = [] ∧ Input.okWide Try.prog (w.forCall tape i) .any w.heap.size f i ∧
   s.pre6 enc Try.prog fn [] false (w.forCall tape i).memory i.args ∧ ({} : Assume).holds Try.prog (lone (Frame.enter Try.prog f i.args .normal) [] (w.forCall tape i)))
  (walk : ∀ (W : World) (args : Array Value) (ds : List (DataW H)) (p : List MemPlace), (∀ (j : Nat) t v, fn.params[j]? = some t → args[j]? = some v → ∃ base, Value.okWide Try.prog W .any base t v) →
   DataW.TrodAll enc Try.prog W 0 (fun _ => true) true fn.params.toList args.toList ds p → (∀ x ∈ p, x.block < W.heap.size) →
   (DataW.weightsEach Try.prog fn.params.toList ds).all (· ≤ reachBytes) = true →
   Calls Try.prog f args W fun e W' => e = .returned (.bool true) ∧ Below W.heap.size W W') :
  ReturnsInHanded {} Try.checked os f .any (s.pre6 enc Try.prog fn [] false) (s.post enc Try.prog fn false true false false) := by
 refine returnsInHanded_of_change_sized (C := Try.checked) Try.own started noInit hfn witness ?_
 intro W base args ds gs before hval hW _ hsz0 _
 have hW' := hW
 obtain ⟨p, q, hA0, hV, rfl, _, _⟩ := hW
 have hA : DataW.TrodAll enc Try.prog W 0 (fun _ => true) true fn.params.toList args.toList ds p := hA0
 rw [hvars] at hV hW'
 obtain ⟨rfl, rfl⟩ := trodVars_none hV
 simp only [List.append_nil] at hW'
 have hlt : ∀ x ∈ p, x.block < W.heap.size := fun x hx => by simpa using hW'.lt x hx
 have hsz : (DataW.weightsEach Try.prog fn.params.toList ds).all (· ≤ reachBytes) = true := by
  have h := hsz0
  rw [show s.plain.varTypes Try.checked.prog = [] from hplain] at h
  simp only [List.append_nil] at h
  exact h
 obtain ⟨er, ea, ev⟩ := hspec args.toList ds W p hA
 refine (walk W args ds p (fun j t v h1 h2 => ⟨base, hval j t v h1 h2⟩) hA hlt hsz).mono fun e W' ⟨he, hb⟩ => ?_
 subst he
 refine ⟨_, rfl, ds, [], p, [], p, [], ?_, ?_, ?_, ?_, hb.frame _, fun h => by cases h⟩
 ·rw [hvars]; exact hW'
 ·rw [er, hres]; exact trodAll_mk1 (shut_bool Try.underlying4 _)
 ·rw [ea]; exact stays Try.laidOut hb _ _ _ _ hA (readable_of hread) hlt
 ·rw [ev, hvars]; trivial
end
end Go.Proofs.Ytpnccmlajhhpdaa
namespace Go.Proofs.Ytpnccmlajhhpdaa
open Go.RowKit Abs
noncomputable def disk_New (_ : CallF) (_ : Nat)  (h : AHeap) : R :=
 outK (opBox h 106 (some (.agg ([.bool false, .nsl, .bool false, .nsl, .nsl, .bool false, .nsl, .bool false, .nsl, .nsl, .bool false, .nsl, .bool false, .nsl, .nsl, .bool false, .nsl, .bool false, .nsl, .nsl, .bool false, .nsl, .bool false, .nsl, .nsl, .bool false, .nsl, .bool false, .nsl, .nsl, .bool false, .nsl, .bool false, .nsl, .nsl, .bool false, .nsl, .bool false, .nsl, .nsl, .bool false, .nsl, .bool false, .nsl, .nsl, .bool false, .nsl, .bool false, .nsl, .nsl, .bool false, .nsl, .bool false, .nsl, .nsl, .bool false, .nsl, .bool false, .nsl, .nsl, .bool false, .nsl, .bool false, .nsl, .nsl, .bool false, .nsl, .bool false, .nsl, .nsl, .bool false, .nsl, .bool false, .nsl, .nsl, .bool false, .nsl, .bool false, .nsl, .nsl, .bool false, .nsl, .bool false, .nsl, .nsl, .bool false, .nsl, .bool false, .nsl, .nsl, .bool false, .nsl, .bool false, .nsl, .nsl, .bool false, .nsl, .bool false, .nsl, .nsl, .bool false, .nsl, .bool false, .nsl, .nsl, .bool false, .nsl, .bool false, .nsl, .nsl, .bool false, .nsl, .bool false, .nsl, .nsl, .bool false, .nsl, .bool false, .nsl, .nsl, .bool false, .nsl, .bool false, .nsl, .nsl, .bool false, .nsl, .bool false, .nsl, .nsl, .bool false, .nsl, .bool false, .nsl, .nsl, .bool false, .nsl, .bool false, .nsl, .nsl, .bool false, .nsl, .bool false, .nsl, .nsl, .bool false, .nsl, .bool false, .nsl, .nsl, .bool false, .nsl, .bool false, .nsl, .nsl, .bool false, .nsl, .bool false, .nsl, .nsl, .int .i64 (-1), .int .i64 0] : List AV)))) fun v2 h_3 =>
 some (.ret (v2), h_3)
set_option maxHeartbeats 4000000 in
set_option maxRecDepth 20000 in
theorem disk_New_ok {call : CallF} (_ : SaysAll Try.prog call) {n : Nat}  {h : AHeap} {rR : ARes} {hR : AHeap} (hF : disk_New call n  h = some (rR, hR)) : Says Try.prog 13 [] h rR hR := by
 unfold disk_New at hF
 refine sO Try.func13 fun w0 m0 => ?_
 refine wW [] ?_
 refine oG fun n1 => W.r ?_
 refine oA 0 AV.nilp ?_
 refine oV [] (n1 ?_)
 refine oG fun n2 => W.r ?_
 refine oA 1 (.agg ([.bool false, .nsl, .bool false, .nsl, .nsl, .bool false, .nsl, .bool false, .nsl, .nsl, .bool false, .nsl, .bool false, .nsl, .nsl, .bool false, .nsl, .bool false, .nsl, .nsl, .bool false, .nsl, .bool false, .nsl, .nsl, .bool false, .nsl, .bool false, .nsl, .nsl, .bool false, .nsl, .bool false, .nsl, .nsl, .bool false, .nsl, .bool false, .nsl, .nsl, .bool false, .nsl, .bool false, .nsl, .nsl, .bool false, .nsl, .bool false, .nsl, .nsl, .bool false, .nsl, .bool false, .nsl, .nsl, .bool false, .nsl, .bool false, .nsl, .nsl, .bool false, .nsl, .bool false, .nsl, .nsl, .bool false, .nsl, .bool false, .nsl, .nsl, .bool false, .nsl, .bool false, .nsl, .nsl, .bool false, .nsl, .bool false, .nsl, .nsl, .bool false, .nsl, .bool false, .nsl, .nsl, .bool false, .nsl, .bool false, .nsl, .nsl, .bool false, .nsl, .bool false, .nsl, .nsl, .bool false, .nsl, .bool false, .nsl, .nsl, .bool false, .nsl, .bool false, .nsl, .nsl, .bool false, .nsl, .bool false, .nsl, .nsl, .bool false, .nsl, .bool false, .nsl, .nsl, .bool false, .nsl, .bool false, .nsl, .nsl, .bool false, .nsl, .bool false, .nsl, .nsl, .bool false, .nsl, .bool false, .nsl, .nsl, .bool false, .nsl, .bool false, .nsl, .nsl, .bool false, .nsl, .bool false, .nsl, .nsl, .bool false, .nsl, .bool false, .nsl, .nsl, .bool false, .nsl, .bool false, .nsl, .nsl, .bool false, .nsl, .bool false, .nsl, .nsl, .bool false, .nsl, .bool false, .nsl, .nsl, .int .i64 (-1), .int .i64 0] : List AV)) ?_
 refine oK 2 hF fun v2 h_3 hF => ?_
 refine oA 0 v2 ?_
 refine oV [(0, v2)] (n2 (oY ?_))
 exact lZ hF [.tmp 0] [v2] (rT res_nil)
noncomputable def disk_Disk_Append (call : CallF) (_ : Nat) (t0 : AV) (t1 : Int) (t2 : Bytes) (h : AHeap) : R :=
 callN (call 50 [t0, .int .i64 t1] h) fun r10 h_4 =>
 obind (avInt .i64 r10) fun t10 =>
 lett ((t10 : Int) != 0) fun (t12 : Bool) =>
 ifB t12
 (
  some (.ret (.int .i64 t10), h_4))
 (
  obind (nilC t0) fun t18 =>
  obind (fldP 0 t18) fun t19 =>
  obind (idxA 32 5 t19 t1) fun t20 =>
  obind (fldP 2 t20) fun t21 =>
  obind (fldP 1 t21) fun t22 =>
  obind (ldCell h_4 t22) fun v23 =>
  obind (lenL v23) fun t24 =>
  lett (IntKind.i64.wrap (1048576 - t24)) fun (t25 : Int) =>
  lett (decide ((lenS t2) > t25)) fun (t26 : Bool) =>
  ifB t26
  (
   some (.ret (.int .i64 8), h_4))
  (
   callN (call 51 [t0, .int .i64 t1, .agg ([.int .i64 0, strA t2, .int .i64 0] : List AV)] h_4) fun r31 h_23 =>
   obind (avInt .i64 r31) fun t31 =>
   some (.ret (.int .i64 t31), h_23)))
set_option maxHeartbeats 4000000 in
set_option maxRecDepth 20000 in
theorem disk_Disk_Append_ok {call : CallF} (hc : SaysAll Try.prog call) {n : Nat} {t0 : AV} {t1 : Int} {t2 : Bytes} {h : AHeap} {rR : ARes} {hR : AHeap} (hF : disk_Disk_Append call n t0 t1 t2 h = some (rR, hR)) : Says Try.prog 26 [t0, .int .i64 t1, strA t2] h rR hR := by
 unfold disk_Disk_Append at hF
 refine sO Try.func26 fun w0 m0 => ?_
 refine wW [(0, t0), (1, .int .i64 t1), (2, strA t2)] ?_
 refine oG fun n1 => W.r ?_
 refine oA 6 (.int .i64 0) ?_
 refine oV [(0, t0), (1, .int .i64 t1), (2, strA t2)] (n1 ?_)
 refine oH fun n2 q2 => ?_
 refine oG fun n3 => W.r ?_
 refine oA 8 t0 ?_
 refine oA 9 (.int .i64 t1) ?_
 refine oCi hc 10 hF fun t10 h_4 hF => ?_
 refine oA 7 (.int .i64 t10) ?_
 refine oV [(0, t0), (1, .int .i64 t1), (2, strA t2), (7, .int .i64 t10)] (n3 ?_)
 refine oG fun n7 => W.r ?_
 refine oA 11 (.int .i64 t10) ?_
 refine oB 12 hF fun t12 hF => ?_
 refine oV [(0, t0), (1, .int .i64 t1), (2, strA t2), (7, .int .i64 t10), (12, .bool t12)] (n7 ?_)
 cases t12 with
 | true =>
  refine oT hF fun hF => ?_
  refine oG fun n9 => W.r ?_
  refine oA 13 (.int .i64 t10) ?_
  refine oA 6 (.int .i64 t10) ?_
  refine oV [(6, .int .i64 t10)] (n9 (oY (q2 ?_)))
  exact lZ hF [.tmp 6] [.int .i64 t10] (rT res_nil)
 | false =>
  refine oU hF fun hF => ?_
  refine oZ (n2 ?_)
  refine oH fun n10 q10 => ?_
  refine oG fun n11 => W.r ?_
  refine oA 14 (strA t2) ?_
  refine oA 15 (.int .i64 (lenS t2)) ?_
  refine oA 16 t0 ?_
  refine oA 17 (.int .i64 t1) ?_
  refine oC0 18 hF fun t18 hF => ?_
  refine oF 19 106 0 hF fun t19 hF => ?_
  refine oQ 20 104 103 .i64 hF fun t20 hF => ?_
  refine oF 21 103 1 hF fun t21 hF => ?_
  refine oF 22 100 1 hF fun t22 hF => ?_
  refine oL 23 46 hF fun v23 hF => ?_
  refine oM 24 46 5 hF fun t24 hF => ?_
  refine oI 25 .i64 hF fun t25 hF => ?_
  refine oB 26 hF fun t26 hF => ?_
  refine oV [(0, t0), (1, .int .i64 t1), (2, strA t2), (26, .bool t26)] (n11 ?_)
  cases t26 with
  | true =>
   refine oT hF fun hF => ?_
   refine oG fun n21 => W.r ?_
   refine oA 6 (.int .i64 8) ?_
   refine oV [(6, .int .i64 8)] (n21 (oY (q10 ?_)))
   exact lZ hF [.tmp 6] [.int .i64 8] (rT res_nil)
  | false =>
   refine oU hF fun hF => ?_
   refine oZ (n10 ?_)
   refine oG fun n22 => W.r ?_
   refine oA 27 t0 ?_
   refine oA 28 (.int .i64 t1) ?_
   refine oA 29 (strA t2) ?_
   refine oA 30 (.agg ([.int .i64 0, strA t2, .int .i64 0] : List AV)) ?_
   refine oCi hc 31 hF fun t31 h_23 hF => ?_
   refine oA 6 (.int .i64 t31) ?_
   refine oV [(6, .int .i64 t31)] (n22 (oY ?_))
   exact lZ hF [.tmp 6] [.int .i64 t31] (rT res_nil)
noncomputable def disk_Disk_Sync (call : CallF) (_ : Nat) (t0 : AV) (t1 : Int) (h : AHeap) : R :=
 callN (call 50 [t0, .int .i64 t1] h) fun r9 h_4 =>
 obind (avInt .i64 r9) fun t9 =>
 lett ((t9 : Int) != 0) fun (t11 : Bool) =>
 ifB t11
 (
  some (.ret (.int .i64 t9), h_4))
 (
  obind (nilC t0) fun t15 =>
  obind (fldP 0 t15) fun t16 =>
  obind (idxA 32 5 t16 t1) fun t17 =>
  obind (nilC t17) fun t19 =>
  obind (fldP 0 t19) fun t20 =>
  obind (nilC t17) fun t22 =>
  obind (fldP 4 t22) fun t23 =>
  obind (ldCell h_4 t23) fun v24 =>
  callN (call 72 [t20, v24] h_4) fun _ h_20 =>
  obind (nilC t17) fun t27 =>
  obind (fldP 4 t27) fun t28 =>
  obind (stRow h_20 1 (AV.cells AV.nsl) t28) fun h_25 =>
  callN (call 74 [t0] h_25) fun _ h_28 =>
  some (.ret (.int .i64 0), h_28))
set_option maxHeartbeats 4000000 in
set_option maxRecDepth 20000 in
theorem disk_Disk_Sync_ok {call : CallF} (hc : SaysAll Try.prog call) {n : Nat} {t0 : AV} {t1 : Int} {h : AHeap} {rR : ARes} {hR : AHeap} (hF : disk_Disk_Sync call n t0 t1 h = some (rR, hR)) : Says Try.prog 64 [t0, .int .i64 t1] h rR hR := by
 unfold disk_Disk_Sync at hF
 refine sO Try.func64 fun w0 m0 => ?_
 refine wW [(0, t0), (1, .int .i64 t1)] ?_
 refine oG fun n1 => W.r ?_
 refine oA 4 (.int .i64 0) ?_
 refine oV [(0, t0), (1, .int .i64 t1)] (n1 ?_)
 refine oH fun n2 q2 => ?_
 refine oG fun n3 => W.r ?_
 refine oA 7 t0 ?_
 refine oA 8 (.int .i64 t1) ?_
 refine oCi hc 9 hF fun t9 h_4 hF => ?_
 refine oA 5 (.int .i64 t9) ?_
 refine oV [(0, t0), (1, .int .i64 t1), (5, .int .i64 t9)] (n3 ?_)
 refine oG fun n7 => W.r ?_
 refine oA 10 (.int .i64 t9) ?_
 refine oB 11 hF fun t11 hF => ?_
 refine oV [(0, t0), (1, .int .i64 t1), (5, .int .i64 t9), (11, .bool t11)] (n7 ?_)
 cases t11 with
 | true =>
  refine oT hF fun hF => ?_
  refine oG fun n9 => W.r ?_
  refine oA 12 (.int .i64 t9) ?_
  refine oA 4 (.int .i64 t9) ?_
  refine oV [(4, .int .i64 t9)] (n9 (oY (q2 ?_)))
  exact lZ hF [.tmp 4] [.int .i64 t9] (rT res_nil)
 | false =>
  refine oU hF fun hF => ?_
  refine oZ (n2 ?_)
  refine oG fun n10 => W.r ?_
  refine oA 13 t0 ?_
  refine oA 14 (.int .i64 t1) ?_
  refine oC0 15 hF fun t15 hF => ?_
  refine oF 16 106 0 hF fun t16 hF => ?_
  refine oQ 17 104 103 .i64 hF fun t17 hF => ?_
  refine oA 6 t17 ?_
  refine oV [(0, t0), (6, t17)] (n10 ?_)
  refine oG fun n14 => ?_
  refine W.draw (by kernel_rfl) (hc.ok w0) (plan := [0, 1, 2, 3, 4, 5, 6, 7]) (by kernel_rfl) (by kernel_rfl) (by kernel_rfl) ?_
  refine WD.a 0 (some 18) t17 h_4 ?_
  obtain ⟨t19, e15, hF⟩ := obind_some hF
  refine WD.b 0 (some 19) t19 h_4 (nil_chk (h := h_4) e15) ?_
  obtain ⟨t20, e16, hF⟩ := obind_some hF
  refine WD.b 0 (some 20) t20 h_4 (field_ptr (P := Try.prog) (h := h_4) (s := 103) (f := 0) (by kernel_rfl) e16) ?_
  refine WD.a 0 (some 21) t17 h_4 ?_
  obtain ⟨t22, e17, hF⟩ := obind_some hF
  refine WD.b 0 (some 22) t22 h_4 (nil_chk (h := h_4) e17) ?_
  obtain ⟨t23, e18, hF⟩ := obind_some hF
  refine WD.b 0 (some 23) t23 h_4 (field_ptr (P := Try.prog) (h := h_4) (s := 103) (f := 2) (by kernel_rfl) e18) ?_
  obtain ⟨v24, e19, hF⟩ := obind_some hF
  refine WD.b 1 (some 24) v24 h_4 (load_cell (P := Try.prog) (h := h_4) (t := 101) (by kernel_rfl) e19) ?_
  obtain ⟨r25, h_20, e21, hF⟩ := callN_some hF
  refine WD.call (d := (some 25)) (by kernel_rfl) (by kernel_rfl) (by kernel_rfl) e21 (k := 2) (by kernel_rfl) (fun _ => (by kernel_rfl)) (by decide) ?_
  refine WD.nil ?_
  refine gW [(0, t0), (6, t17)] (n14 ?_)
  refine oG fun n22 => W.r ?_
  refine oA 26 t17 ?_
  refine oC0 27 hF fun t27 hF => ?_
  refine oF 28 103 2 hF fun t28 hF => ?_
  refine oW 101 AV.nsl hF fun h_25 hF => ?_
  refine oV [(0, t0)] (n22 ?_)
  refine oG fun n27 => W.r ?_
  refine oA 29 t0 ?_
  refine oC hc (some 30) hF fun r30 h_28 hF => ?_
  refine oV [] (n27 ?_)
  refine oG fun n30 => W.r ?_
  refine oA 4 (.int .i64 0) ?_
  refine oV [(4, .int .i64 0)] (n30 (oY ?_))
  exact lZ hF [.tmp 4] [.int .i64 0] (rT res_nil)
noncomputable def disk_Disk_Remove (call : CallF) (_ : Nat) (t0 : AV) (t1 : Int) (h : AHeap) : R :=
 callN (call 50 [t0, .int .i64 t1] h) fun r8 h_4 =>
 obind (avInt .i64 r8) fun t8 =>
 lett ((t8 : Int) != 0) fun (t10 : Bool) =>
 ifB t10
 (
  some (.ret (.int .i64 t8), h_4))
 (
  obind (nilC t0) fun t14 =>
  obind (fldP 0 t14) fun t15 =>
  obind (idxA 32 5 t15 t1) fun t16 =>
  obind (fldP 2 t16) fun t17 =>
  obind (fldP 0 t17) fun t18 =>
  obind (ldCell h_4 t18) fun v19 =>
  obind (avBool v19) fun t19 =>
  lett (!t19) fun (t20 : Bool) =>
  ifB t20
  (
   some (.ret (.int .i64 4), h_4))
  (
   callN (call 51 [t0, .int .i64 t1, .agg ([.int .i64 2, .str 0 0, .int .i64 0] : List AV)] h_4) fun r24 h_22 =>
   obind (avInt .i64 r24) fun t24 =>
   some (.ret (.int .i64 t24), h_22)))
set_option maxHeartbeats 4000000 in
set_option maxRecDepth 20000 in
theorem disk_Disk_Remove_ok {call : CallF} (hc : SaysAll Try.prog call) {n : Nat} {t0 : AV} {t1 : Int} {h : AHeap} {rR : ARes} {hR : AHeap} (hF : disk_Disk_Remove call n t0 t1 h = some (rR, hR)) : Says Try.prog 63 [t0, .int .i64 t1] h rR hR := by
 unfold disk_Disk_Remove at hF
 refine sO Try.func63 fun w0 m0 => ?_
 refine wW [(0, t0), (1, .int .i64 t1)] ?_
 refine oG fun n1 => W.r ?_
 refine oA 4 (.int .i64 0) ?_
 refine oV [(0, t0), (1, .int .i64 t1)] (n1 ?_)
 refine oH fun n2 q2 => ?_
 refine oG fun n3 => W.r ?_
 refine oA 6 t0 ?_
 refine oA 7 (.int .i64 t1) ?_
 refine oCi hc 8 hF fun t8 h_4 hF => ?_
 refine oA 5 (.int .i64 t8) ?_
 refine oV [(0, t0), (1, .int .i64 t1), (5, .int .i64 t8)] (n3 ?_)
 refine oG fun n7 => W.r ?_
 refine oA 9 (.int .i64 t8) ?_
 refine oB 10 hF fun t10 hF => ?_
 refine oV [(0, t0), (1, .int .i64 t1), (5, .int .i64 t8), (10, .bool t10)] (n7 ?_)
 cases t10 with
 | true =>
  refine oT hF fun hF => ?_
  refine oG fun n9 => W.r ?_
  refine oA 11 (.int .i64 t8) ?_
  refine oA 4 (.int .i64 t8) ?_
  refine oV [(4, .int .i64 t8)] (n9 (oY (q2 ?_)))
  exact lZ hF [.tmp 4] [.int .i64 t8] (rT res_nil)
 | false =>
  refine oU hF fun hF => ?_
  refine oZ (n2 ?_)
  refine oH fun n10 q10 => ?_
  refine oG fun n11 => W.r ?_
  refine oA 12 t0 ?_
  refine oA 13 (.int .i64 t1) ?_
  refine oC0 14 hF fun t14 hF => ?_
  refine oF 15 106 0 hF fun t15 hF => ?_
  refine oQ 16 104 103 .i64 hF fun t16 hF => ?_
  refine oF 17 103 1 hF fun t17 hF => ?_
  refine oF 18 100 0 hF fun t18 hF => ?_
  refine oLb 19 4 hF fun t19 hF => ?_
  refine oB 20 hF fun t20 hF => ?_
  refine oV [(0, t0), (1, .int .i64 t1), (20, .bool t20)] (n11 ?_)
  cases t20 with
  | true =>
   refine oT hF fun hF => ?_
   refine oG fun n20 => W.r ?_
   refine oA 4 (.int .i64 4) ?_
   refine oV [(4, .int .i64 4)] (n20 (oY (q10 ?_)))
   exact lZ hF [.tmp 4] [.int .i64 4] (rT res_nil)
  | false =>
   refine oU hF fun hF => ?_
   refine oZ (n10 ?_)
   refine oG fun n21 => W.r ?_
   refine oA 21 t0 ?_
   refine oA 22 (.int .i64 t1) ?_
   refine oA 23 (.agg ([.int .i64 2, .str 0 0, .int .i64 0] : List AV)) ?_
   refine oCi hc 24 hF fun t24 h_22 hF => ?_
   refine oA 4 (.int .i64 t24) ?_
   refine oV [(4, .int .i64 t24)] (n21 (oY ?_))
   exact lZ hF [.tmp 4] [.int .i64 t24] (rT res_nil)
noncomputable def disk_Disk_Files_L0b (t0 : AV) (k12 : AV → AHeap → R) (self : AV → Int → AHeap → R) (t3_16 : AV) (t7 : Int) (h_17 : AHeap) : R :=
 lett (decide (t7 < 32)) fun (t8 : Bool) =>
 ifB t8
 (
  obind (nilC t0) fun t12 =>
  obind (fldP 0 t12) fun t13 =>
  obind (idxA 32 5 t13 t7) fun t14 =>
  obind (fldP 2 t14) fun t15 =>
  obind (fldP 0 t15) fun t16 =>
  obind (ldCell h_17 t16) fun v17 =>
  obind (avBool v17) fun t17 =>
  lett (fun (t3_33 : AV) (h_34 : AHeap) =>
   lett (IntKind.i64.wrap (t7 + 1)) fun (t22 : Int) =>
   self t3_33 t22 h_34) fun k32 =>
  ifB t17
  (
   outK (bldSl Try.prog h_17 44 1 [(0, .int .i64 t7)]) fun v20 h_36 =>
   outK (opAppend Try.prog h_36 44 44 t3_16 v20) fun v21 h_38 =>
   k32 v21 h_38)
  (
   k32 t3_16 h_17))
 (
  k12 t3_16 h_17)
noncomputable def disk_Disk_Files_L0 (t0 : AV) (k12 : AV → AHeap → R) : Nat → AV → Int → AHeap → R := iterR (fun _ _ _ => none) (disk_Disk_Files_L0b t0 k12)
theorem disk_Disk_Files_L0_s (t0 : AV) (k12 : AV → AHeap → R) (m : Nat) : disk_Disk_Files_L0 t0 k12 (m + 1) = disk_Disk_Files_L0b t0 k12 (disk_Disk_Files_L0 t0 k12 m) := rfl
noncomputable def disk_Disk_Files (_ : CallF) (n : Nat) (t0 : AV) (h : AHeap) : R :=
 outK (opBin Try.prog h .eql 36 true (some t0) (some AV.nilp)) fun v6 h_4 =>
 obind (avBool v6) fun t6 =>
 ifB t6
 (
  some (.ret (AV.nsl), h_4))
 (
  lett (fun (t3 : AV) (h_13 : AHeap) =>
   some (.ret (t3), h_13)) fun k12 =>
  disk_Disk_Files_L0 t0 k12 n AV.nsl 0 h_4)
set_option maxHeartbeats 4000000 in
set_option maxRecDepth 20000 in
theorem disk_Disk_Files_ok {call : CallF} (_ : SaysAll Try.prog call) {n : Nat} {t0 : AV} {h : AHeap} {rR : ARes} {hR : AHeap} (hF : disk_Disk_Files call n t0 h = some (rR, hR)) : Says Try.prog 17 [t0] h rR hR := by
 unfold disk_Disk_Files at hF
 refine sO Try.func17 fun w0 m0 => ?_
 refine wW [(0, t0)] ?_
 refine oG fun n1 => W.r ?_
 refine oA 2 AV.nsl ?_
 refine oV [(0, t0)] (n1 ?_)
 refine oH fun n2 q2 => ?_
 refine oG fun n3 => W.r ?_
 refine oA 5 t0 ?_
 replace hF := outK_some hF; obtain ⟨v6, h_4, e5, hF⟩ := hF
 replace hF := obind_some hF; obtain ⟨t6, c6, hF⟩ := hF
 have c6 := avBool_some c6
 subst c6
 refine WL.b (some 6) (.bool t6) h_4 e5 ?_
 refine oV [(0, t0), (6, .bool t6)] (n3 ?_)
 cases t6 with
 | true =>
  refine oT hF fun hF => ?_
  refine oG fun n7 => W.r ?_
  refine oA 2 AV.nsl ?_
  refine oV [(2, AV.nsl)] (n7 (oY (q2 ?_)))
  exact lZ hF [.tmp 2] [AV.nsl] (rT res_nil)
 | false =>
  refine oU hF fun hF => ?_
  refine oZ (n2 ?_)
  refine oG fun n8 => W.r ?_
  refine oA 3 AV.nsl ?_
  refine oV [(0, t0), (3, AV.nsl)] (n8 ?_)
  refine W.s (fun K9 n9 e9 q9 p9 => ?_)
  refine oG fun n10 => W.r ?_
  refine oA 7 (.int .i64 0) ?_
  refine oV [(0, t0), (3, AV.nsl), (7, .int .i64 0)] (n10 ?_)
  obtain ⟨k12, e12, hF⟩ := lett_some hF
  have J12 : ∀ (t3 : AV) (h_13 : AHeap), k12 t3 h_13 = some (rR, hR) → Go w0 m0 (Func.ntmps Try.f17) (K9 .normal) [(3, t3)] [] h_13 := by
   intro t3 h_13 hF
   rw [e12] at hF
   refine n9 ?_
   refine oG fun n14 => W.r ?_
   refine oA 23 t3 ?_
   refine oA 2 t3 ?_
   refine oV [(2, t3)] (n14 (oY ?_))
   exact lZ hF [.tmp 2] [t3] (rT res_nil)
  refine W.blockK (by kernel_rfl) (fun K11 n11 s11 o11 q11 p11 => ?_)
  refine W.loopK (by kernel_rfl) (fun I15 K15 b15 n15 e15 q15 p15 => ?_)
  have L15 : ∀ (m : Nat) (t3_16 : AV) (t7 : Int) (h_17 : AHeap), disk_Disk_Files_L0 t0 k12 m t3_16 t7 h_17 = some (rR, hR) → Go w0 m0 (Func.ntmps Try.f17) I15 [(0, t0), (3, t3_16), (7, .int .i64 t7)] [] h_17 := by
   intro m
   induction m with
   | zero => intro t3_16 t7 h_17 hF; cases hF
   | succ m ih15 =>
    intro t3_16 t7 h_17 hF
    rw [disk_Disk_Files_L0_s] at hF; unfold disk_Disk_Files_L0b at hF
    refine b15 ?_
    refine oG fun n18 => W.r ?_
    refine oB 8 hF fun t8 hF => ?_
    refine oV [(0, t0), (3, t3_16), (7, .int .i64 t7), (8, .bool t8)] (n18 ?_)
    refine W.s (fun K20 n20 e20 q20 p20 => ?_)
    cases t8 with
    | true =>
     refine oT hF fun hF => ?_
     refine oZ (n20 ?_)
     refine oG fun n21 => ?_
     refine W.blockK (by kernel_rfl) (fun K22 n22 s22 o22 q22 p22 => ?_)
     refine oG fun n23 => W.r ?_
     refine oA 9 (.int .i64 t7) ?_
     refine oA 4 (.int .i64 t7) ?_
     refine oV [(0, t0), (3, t3_16), (4, .int .i64 t7), (7, .int .i64 t7)] (n23 ?_)
     refine oG fun n24 => W.r ?_
     refine oA 10 t0 ?_
     refine oA 11 (.int .i64 t7) ?_
     refine oC0 12 hF fun t12 hF => ?_
     refine oF 13 106 0 hF fun t13 hF => ?_
     refine oQ 14 104 103 .i64 hF fun t14 hF => ?_
     refine oF 15 103 1 hF fun t15 hF => ?_
     refine oF 16 100 0 hF fun t16 hF => ?_
     refine oLb 17 4 hF fun t17 hF => ?_
     refine oV [(0, t0), (3, t3_16), (4, .int .i64 t7), (7, .int .i64 t7), (17, .bool t17)] (n24 ?_)
     obtain ⟨k32, e32, hF⟩ := lett_some hF
     have J32 : ∀ (t3_33 : AV) (h_34 : AHeap), k32 t3_33 h_34 = some (rR, hR) → Go w0 m0 (Func.ntmps Try.f17) (K22 .normal) [(0, t0), (3, t3_33), (7, .int .i64 t7)] [] h_34 := by
      intro t3_33 h_34 hF
      rw [e32] at hF
      refine n22 (n21 (W.r ?_))
      refine oI 22 .i64 hF fun t22 hF => ?_
      refine oA 7 (.int .i64 t22) ?_
      refine oV [(0, t0), (3, t3_33), (7, .int .i64 t22)] (n15 ?_)
      exact gW _ (ih15 _ _ _ hF)
     cases t17 with
     | true =>
      refine oT hF fun hF => ?_
      refine W.r ?_
      refine oA 18 t3_16 ?_
      refine oA 19 (.int .i64 t7) ?_
      refine oK 20 hF fun v20 h_36 hF => ?_
      refine oK 21 hF fun v21 h_38 hF => ?_
      refine oA 3 v21 ?_
      refine oV [(0, t0), (3, v21), (7, .int .i64 t7)] ?_
      exact gW _ (J32 _ _ hF)
     | false =>
      refine oU hF fun hF => ?_
      refine oZ ?_
      exact gW _ (J32 _ _ hF)
    | false =>
     refine oU hF fun hF => ?_
     refine W.exit (by kernel_rfl) ?_
     refine e20 (e15 ?_)
     refine s11 (by kernel_rfl) ?_
     exact gW _ (J12 _ _ hF)
  exact gW _ (L15 _ _ _ _ hF)
noncomputable def disk_Disk_Power (_ : CallF) (_ : Nat) (t0 : AV) (t1 : Int) (h : AHeap) : R :=
 outK (opBin Try.prog h .eql 36 true (some t0) (some AV.nilp)) fun v6 h_4 =>
 obind (avBool v6) fun t6 =>
 ifB t6
 (
  some (.ret (.int .i64 1), h_4))
 (
  lett (if (-1) > t1 then (-1) else t1) fun (t9 : Int) =>
  obind (nilC t0) fun t10 =>
  obind (fldP 160 t10) fun t11 =>
  obind (stRow h_4 1 [.int .i64 t9] t11) fun h_12 =>
  some (.ret (.int .i64 0), h_12))
set_option maxHeartbeats 4000000 in
set_option maxRecDepth 20000 in
theorem disk_Disk_Power_ok {call : CallF} (_ : SaysAll Try.prog call) {n : Nat} {t0 : AV} {t1 : Int} {h : AHeap} {rR : ARes} {hR : AHeap} (hF : disk_Disk_Power call n t0 t1 h = some (rR, hR)) : Says Try.prog 23 [t0, .int .i64 t1] h rR hR := by
 unfold disk_Disk_Power at hF
 refine sO Try.func23 fun w0 m0 => ?_
 refine wW [(0, t0), (1, .int .i64 t1)] ?_
 refine oG fun n1 => W.r ?_
 refine oA 4 (.int .i64 0) ?_
 refine oV [(0, t0), (1, .int .i64 t1)] (n1 ?_)
 refine oH fun n2 q2 => ?_
 refine oG fun n3 => W.r ?_
 refine oA 5 t0 ?_
 replace hF := outK_some hF; obtain ⟨v6, h_4, e5, hF⟩ := hF
 replace hF := obind_some hF; obtain ⟨t6, c6, hF⟩ := hF
 have c6 := avBool_some c6
 subst c6
 refine WL.b (some 6) (.bool t6) h_4 e5 ?_
 refine oV [(0, t0), (1, .int .i64 t1), (6, .bool t6)] (n3 ?_)
 cases t6 with
 | true =>
  refine oT hF fun hF => ?_
  refine oG fun n7 => W.r ?_
  refine oA 4 (.int .i64 1) ?_
  refine oV [(4, .int .i64 1)] (n7 (oY (q2 ?_)))
  exact lZ hF [.tmp 4] [.int .i64 1] (rT res_nil)
 | false =>
  refine oU hF fun hF => ?_
  refine oZ (n2 ?_)
  refine oG fun n8 => W.r ?_
  refine oA 7 t0 ?_
  refine oA 8 (.int .i64 t1) ?_
  refine oI 9 .i64 hF fun t9 hF => ?_
  refine oC0 10 hF fun t10 hF => ?_
  refine oF 11 106 1 hF fun t11 hF => ?_
  refine oW 3 (.int .i64 t9) hF fun h_12 hF => ?_
  refine oV [] (n8 ?_)
  refine oG fun n14 => W.r ?_
  refine oA 4 (.int .i64 0) ?_
  refine oV [(4, .int .i64 0)] (n14 (oY ?_))
  exact lZ hF [.tmp 4] [.int .i64 0] (rT res_nil)
noncomputable def disk_Disk_On (_ : CallF) (_ : Nat) (t0 : AV) (h : AHeap) : R :=
 outK (opBin Try.prog h .neq 36 true (some t0) (some AV.nilp)) fun v4 h_3 =>
 obind (avBool v4) fun t4 =>
 lett (fun (t11 : Bool) (h_6 : AHeap) =>
  some (.ret (.bool t11), h_6)) fun j11 =>
 ifB t4
 (
  obind (nilC t0) fun t7 =>
  obind (fldP 160 t7) fun t8 =>
  obind (ldCell h_3 t8) fun v9 =>
  obind (avInt .i64 v9) fun t9 =>
  lett ((t9 : Int) != 0) fun (t10 : Bool) =>
  j11 t10 h_3)
 (
  j11 false h_3)
set_option maxHeartbeats 4000000 in
set_option maxRecDepth 20000 in
theorem disk_Disk_On_ok {call : CallF} (_ : SaysAll Try.prog call) {n : Nat} {t0 : AV} {h : AHeap} {rR : ARes} {hR : AHeap} (hF : disk_Disk_On call n t0 h = some (rR, hR)) : Says Try.prog 59 [t0] h rR hR := by
 unfold disk_Disk_On at hF
 refine sO Try.func59 fun w0 m0 => ?_
 refine wW [(0, t0)] ?_
 refine oG fun n1 => W.r ?_
 refine oA 2 (.bool false) ?_
 refine oV [(0, t0)] (n1 ?_)
 refine W.s (fun K2 n2 e2 q2 p2 => ?_)
 refine W.r ?_
 refine oA 3 t0 ?_
 replace hF := outK_some hF; obtain ⟨v4, h_3, e4, hF⟩ := hF
 replace hF := obind_some hF; obtain ⟨t4, c5, hF⟩ := hF
 have c5 := avBool_some c5
 subst c5
 refine WL.b (some 4) (.bool t4) h_3 e4 ?_
 refine oA 5 (.bool t4) ?_
 obtain ⟨j11, e7, hF⟩ := lett_some hF
 have J8 : ∀ (t11 : Bool) (h_6 : AHeap), j11 t11 h_6 = some (rR, hR) → WL Try.prog w0 m0 (Func.ntmps Try.f59) (Code.ops (Code.p1 (Code.p2 (codeOf Try.f59)))) 9 K2 [(11, .bool t11)] [] h_6 := by
  intro t11 h_6 hF
  rw [e7] at hF
  refine oA 2 (.bool t11) ?_
  refine oV [(2, .bool t11)] (n2 (oY ?_))
  exact lZ hF [.tmp 2] [.bool t11] (rT res_nil)
 cases t4 with
 | true =>
  replace hF := ifB_t hF
  refine oA 6 t0 ?_
  refine oC0 7 hF fun t7 hF => ?_
  refine oF 8 106 1 hF fun t8 hF => ?_
  refine oLi 9 3 hF fun t9 hF => ?_
  refine oB 10 hF fun t10 hF => ?_
  refine oA 11 (.bool t10) ?_
  exact lW _ (J8 _ _ hF)
 | false =>
  replace hF := ifB_f hF
  refine WL.o (some 6) ?_
  refine WL.o (some 7) ?_
  refine WL.o (some 8) ?_
  refine WL.o (some 9) ?_
  refine WL.o (some 10) ?_
  refine oA 11 (.bool false) ?_
  exact lW _ (J8 _ _ hF)
noncomputable def disk_Disk_Ops (_ : CallF) (_ : Nat) (t0 : AV) (h : AHeap) : R :=
 outK (opBin Try.prog h .eql 36 true (some t0) (some AV.nilp)) fun v4 h_4 =>
 obind (avBool v4) fun t4 =>
 ifB t4
 (
  some (.ret (.int .i64 0), h_4))
 (
  obind (nilC t0) fun t6 =>
  obind (fldP 161 t6) fun t7 =>
  obind (ldCell h_4 t7) fun v8 =>
  obind (avInt .i64 v8) fun t8 =>
  some (.ret (.int .i64 t8), h_4))
set_option maxHeartbeats 4000000 in
set_option maxRecDepth 20000 in
theorem disk_Disk_Ops_ok {call : CallF} (_ : SaysAll Try.prog call) {n : Nat} {t0 : AV} {h : AHeap} {rR : ARes} {hR : AHeap} (hF : disk_Disk_Ops call n t0 h = some (rR, hR)) : Says Try.prog 29 [t0] h rR hR := by
 unfold disk_Disk_Ops at hF
 refine sO Try.func29 fun w0 m0 => ?_
 refine wW [(0, t0)] ?_
 refine oG fun n1 => W.r ?_
 refine oA 2 (.int .i64 0) ?_
 refine oV [(0, t0)] (n1 ?_)
 refine oH fun n2 q2 => ?_
 refine oG fun n3 => W.r ?_
 refine oA 3 t0 ?_
 replace hF := outK_some hF; obtain ⟨v4, h_4, e5, hF⟩ := hF
 replace hF := obind_some hF; obtain ⟨t4, c6, hF⟩ := hF
 have c6 := avBool_some c6
 subst c6
 refine WL.b (some 4) (.bool t4) h_4 e5 ?_
 refine oV [(0, t0), (4, .bool t4)] (n3 ?_)
 cases t4 with
 | true =>
  refine oT hF fun hF => ?_
  refine oG fun n7 => W.r ?_
  refine oA 2 (.int .i64 0) ?_
  refine oV [(2, .int .i64 0)] (n7 (oY (q2 ?_)))
  exact lZ hF [.tmp 2] [.int .i64 0] (rT res_nil)
 | false =>
  refine oU hF fun hF => ?_
  refine oZ (n2 ?_)
  refine oG fun n8 => W.r ?_
  refine oA 5 t0 ?_
  refine oC0 6 hF fun t6 hF => ?_
  refine oF 7 106 2 hF fun t7 hF => ?_
  refine oLi 8 3 hF fun t8 hF => ?_
  refine oA 2 (.int .i64 t8) ?_
  refine oV [(2, .int .i64 t8)] (n8 (oY ?_))
  exact lZ hF [.tmp 2] [.int .i64 t8] (rT res_nil)
noncomputable def disk_Disk_refuses (call : CallF) (_ : Nat) (t0 : AV) (t1 : Int) (h : AHeap) : R :=
 outK (opBin Try.prog h .eql 36 true (some t0) (some AV.nilp)) fun v7 h_5 =>
 obind (avBool v7) fun t7 =>
 ifB t7
 (
  some (.ret (.int .i64 1), h_5))
 (
  callN (call 59 [t0] h_5) fun r10 h_10 =>
  obind (avBool r10) fun t10 =>
  lett (!t10) fun (t11 : Bool) =>
  ifB t11
  (
   some (.ret (.int .i64 40), h_10))
  (
   callN (call 53 [.int .i64 t1] h_10) fun r14 h_16 =>
   obind (avBool r14) fun t14 =>
   lett (!t14) fun (t15 : Bool) =>
   ifB t15
   (
    some (.ret (.int .i64 2), h_16))
   (
    some (.ret (.int .i64 0), h_16))))
set_option maxHeartbeats 4000000 in
set_option maxRecDepth 20000 in
theorem disk_Disk_refuses_ok {call : CallF} (hc : SaysAll Try.prog call) {n : Nat} {t0 : AV} {t1 : Int} {h : AHeap} {rR : ARes} {hR : AHeap} (hF : disk_Disk_refuses call n t0 t1 h = some (rR, hR)) : Says Try.prog 50 [t0, .int .i64 t1] h rR hR := by
 unfold disk_Disk_refuses at hF
 refine sO Try.func50 fun w0 m0 => ?_
 refine wW [(0, t0), (1, .int .i64 t1)] ?_
 refine oG fun n1 => W.r ?_
 refine oA 4 (.int .i64 0) ?_
 refine oV [(0, t0), (1, .int .i64 t1)] (n1 ?_)
 refine oH fun n2 q2 => ?_
 refine W.blockK (by kernel_rfl) (fun K3 n3 s3 o3 q3 p3 => ?_)
 refine oG fun n4 => W.r ?_
 refine oA 6 t0 ?_
 replace hF := outK_some hF; obtain ⟨v7, h_5, e6, hF⟩ := hF
 replace hF := obind_some hF; obtain ⟨t7, c7, hF⟩ := hF
 have c7 := avBool_some c7
 subst c7
 refine WL.b (some 7) (.bool t7) h_5 e6 ?_
 refine oA 5 (.bool t7) ?_
 refine oV [(0, t0), (1, .int .i64 t1), (5, .bool t7)] (n4 ?_)
 cases t7 with
 | true =>
  refine oT hF fun hF => ?_
  refine oG fun n8 => W.r ?_
  refine oA 4 (.int .i64 1) ?_
  refine oV [(4, .int .i64 1)] (n8 (oY (q3 (q2 ?_))))
  exact lZ hF [.tmp 4] [.int .i64 1] (rT res_nil)
 | false =>
  refine oU hF fun hF => ?_
  refine oG fun n9 => W.r ?_
  refine oA 9 t0 ?_
  refine oCb hc 10 hF fun t10 h_10 hF => ?_
  refine oB 11 hF fun t11 hF => ?_
  refine oA 8 (.bool t11) ?_
  refine oV [(1, .int .i64 t1), (8, .bool t11)] (n9 ?_)
  cases t11 with
  | true =>
   refine oT hF fun hF => ?_
   refine oG fun n14 => W.r ?_
   refine oA 4 (.int .i64 40) ?_
   refine oV [(4, .int .i64 40)] (n14 (oY (q3 (q2 ?_))))
   exact lZ hF [.tmp 4] [.int .i64 40] (rT res_nil)
  | false =>
   refine oU hF fun hF => ?_
   refine oG fun n15 => W.r ?_
   refine oA 13 (.int .i64 t1) ?_
   refine oCb hc 14 hF fun t14 h_16 hF => ?_
   refine oB 15 hF fun t15 hF => ?_
   refine oA 12 (.bool t15) ?_
   refine oV [(12, .bool t15)] (n15 ?_)
   cases t15 with
   | true =>
    refine oT hF fun hF => ?_
    refine oG fun n20 => W.r ?_
    refine oA 4 (.int .i64 2) ?_
    refine oV [(4, .int .i64 2)] (n20 (oY (q3 (q2 ?_))))
    exact lZ hF [.tmp 4] [.int .i64 2] (rT res_nil)
   | false =>
    refine oU hF fun hF => ?_
    refine oZ (n3 (n2 ?_))
    refine oG fun n21 => W.r ?_
    refine oA 4 (.int .i64 0) ?_
    refine oV [(4, .int .i64 0)] (n21 (oY ?_))
    exact lZ hF [.tmp 4] [.int .i64 0] (rT res_nil)
noncomputable def disk_Disk_change (call : CallF) (_ : Nat) (t0 : AV) (t1 : Int) (t2 : List AV) (h : AHeap) : R :=
 outK (opBox h 124 (some (.agg t2))) fun v5 h_2 =>
 obind (nilC t0) fun t10 =>
 obind (fldP 0 t10) fun t11 =>
 obind (idxA 32 5 t11 t1) fun t12 =>
 obind (nilC t12) fun t14 =>
 obind (fldP 2 t14) fun t15 =>
 obind (ldRow h_2 3 v5) fun t16 =>
 outK (bldSl Try.prog h_2 101 1 [(0, .agg t16)]) fun v17 h_12 =>
 callN (call 72 [t15, v17] h_12) fun _ h_14 =>
 obind (nilC t12) fun t21 =>
 obind (fldP 4 t21) fun t22 =>
 obind (ldCell h_14 t22) fun v23 =>
 obind (ldRow h_14 3 v5) fun t24 =>
 outK (bldSl Try.prog h_14 101 1 [(0, .agg t24)]) fun v25 h_21 =>
 chk (true && (reLoad Try.prog h_21 101 t22 v23 && true)) <|
 outK (opAppend Try.prog h_21 101 101 v23 v25) fun v26 h_24 =>
 obind (nilC t12) fun t27 =>
 obind (fldP 4 t27) fun t28 =>
 obind (stRow h_24 1 (AV.cells v26) t28) fun h_28 =>
 callN (call 74 [t0] h_28) fun _ h_31 =>
 some (.ret (.int .i64 0), h_31)
set_option maxHeartbeats 4000000 in
set_option maxRecDepth 20000 in
theorem disk_Disk_change_ok {call : CallF} (hc : SaysAll Try.prog call) {n : Nat} {t0 : AV} {t1 : Int} {t2 : List AV} {h : AHeap} {rR : ARes} {hR : AHeap} (hF : disk_Disk_change call n t0 t1 t2 h = some (rR, hR)) : Says Try.prog 51 [t0, .int .i64 t1, .agg t2] h rR hR := by
 unfold disk_Disk_change at hF
 refine sO Try.func51 fun w0 m0 => ?_
 refine wW [(0, t0), (1, .int .i64 t1), (2, .agg t2)] ?_
 refine oG fun n1 => W.r ?_
 refine oK 5 hF fun v5 h_2 hF => ?_
 refine oA 6 (.int .i64 0) ?_
 refine oV [(0, t0), (1, .int .i64 t1), (5, v5)] (n1 ?_)
 refine oG fun n4 => W.r ?_
 refine oA 8 t0 ?_
 refine oA 9 (.int .i64 t1) ?_
 refine oC0 10 hF fun t10 hF => ?_
 refine oF 11 106 0 hF fun t11 hF => ?_
 refine oQ 12 104 103 .i64 hF fun t12 hF => ?_
 refine oA 7 t12 ?_
 refine oV [(0, t0), (5, v5), (7, t12)] (n4 ?_)
 refine oG fun n8 => ?_
 refine W.draw (by kernel_rfl) (hc.ok w0) (plan := [0, 1, 2, 3, 4, 5]) (by kernel_rfl) (by kernel_rfl) (by kernel_rfl) ?_
 refine WD.a 0 (some 13) t12 h_2 ?_
 obtain ⟨t14, e9, hF⟩ := obind_some hF
 refine WD.b 0 (some 14) t14 h_2 (nil_chk (h := h_2) e9) ?_
 obtain ⟨t15, e10, hF⟩ := obind_some hF
 refine WD.b 0 (some 15) t15 h_2 (field_ptr (P := Try.prog) (h := h_2) (s := 103) (f := 1) (by kernel_rfl) e10) ?_
 obtain ⟨t16, e11, hF⟩ := obind_some hF
 refine WD.b 1 (some 16) (.agg t16) h_2 (load_row (P := Try.prog) (h := h_2) (t := 124) (by kernel_rfl) (by kernel_rfl) e11) ?_
 obtain ⟨v17, h_12, e13, hF⟩ := outK_some hF
 refine WD.val (d := (some 17)) (v := v17) (h' := h_12) (by kernel_rfl) (by kernel_rfl) (Eq.trans (by kernel_rfl) e13) (k := 2) (by kernel_rfl) (fun _ => (by kernel_rfl)) (by decide) ?_
 obtain ⟨r18, h_14, e15, hF⟩ := callN_some hF
 refine WD.call (d := (some 18)) (by kernel_rfl) (by kernel_rfl) (by kernel_rfl) e15 (k := 2) (by kernel_rfl) (fun _ => (by kernel_rfl)) (by decide) ?_
 refine WD.nil ?_
 refine gW [(0, t0), (5, v5), (7, t12)] (n8 ?_)
 refine oG fun n16 => ?_
 refine W.draw (by kernel_rfl) (hc.ok w0) (plan := [0, 1, 2, 3, 4, 5, 6, 7, 8, 9, 10]) (by kernel_rfl) (by kernel_rfl) (by kernel_rfl) ?_
 refine WD.a 0 (some 19) t12 h_14 ?_
 refine WD.a 0 (some 20) t12 h_14 ?_
 obtain ⟨t21, e17, hF⟩ := obind_some hF
 refine WD.b 0 (some 21) t21 h_14 (nil_chk (h := h_14) e17) ?_
 obtain ⟨t22, e18, hF⟩ := obind_some hF
 refine WD.b 0 (some 22) t22 h_14 (field_ptr (P := Try.prog) (h := h_14) (s := 103) (f := 2) (by kernel_rfl) e18) ?_
 obtain ⟨v23, e19, hF⟩ := obind_some hF
 refine WD.b 1 (some 23) v23 h_14 (load_cell (P := Try.prog) (h := h_14) (t := 101) (by kernel_rfl) e19) ?_
 obtain ⟨t24, e20, hF⟩ := obind_some hF
 refine WD.b 1 (some 24) (.agg t24) h_14 (load_row (P := Try.prog) (h := h_14) (t := 124) (by kernel_rfl) (by kernel_rfl) e20) ?_
 obtain ⟨v25, h_21, e22, hF⟩ := outK_some hF
 obtain ⟨k23, hF⟩ := chk_some hF
 refine WD.val (d := (some 25)) (v := v25) (h' := h_21) (by kernel_rfl) (by kernel_rfl) (Eq.trans (by kernel_rfl) e22) (k := 2) (by kernel_rfl) (fun _ => (Eq.trans (by kernel_rfl) k23)) (by decide) ?_
 obtain ⟨v26, h_24, e25, hF⟩ := outK_some hF
 refine WD.val (d := (some 26)) (v := v26) (h' := h_24) (by kernel_rfl) (by kernel_rfl) (Eq.trans (by kernel_rfl) e25) (k := 2) (by kernel_rfl) (fun _ => (by kernel_rfl)) (by decide) ?_
 obtain ⟨t27, e26, hF⟩ := obind_some hF
 refine WD.b 0 (some 27) t27 h_24 (nil_chk (h := h_24) e26) ?_
 obtain ⟨t28, e27, hF⟩ := obind_some hF
 refine WD.b 0 (some 28) t28 h_24 (field_ptr (P := Try.prog) (h := h_24) (s := 103) (f := 2) (by kernel_rfl) e27) ?_
 obtain ⟨h_28, e29, hF⟩ := obind_some hF
 refine WD.eff (h' := h_28) (by kernel_rfl) (by kernel_rfl) (Eq.trans (by kernel_rfl) (store_row (P := Try.prog) (h := h_24) (t := 101) (v := v26) (by kernel_rfl) (by kernel_rfl) e29)) (k := 2) (by kernel_rfl) (fun _ => (by kernel_rfl)) (by decide) ?_
 refine WD.nil ?_
 refine gW [(0, t0)] (n16 ?_)
 refine oG fun n30 => W.r ?_
 refine oA 29 t0 ?_
 refine oC hc (some 30) hF fun r30 h_31 hF => ?_
 refine oV [] (n30 ?_)
 refine oG fun n33 => W.r ?_
 refine oA 6 (.int .i64 0) ?_
 refine oV [(6, .int .i64 0)] (n33 (oY ?_))
 exact lZ hF [.tmp 6] [.int .i64 0] (rT res_nil)
noncomputable def disk_content_do_L0b (t0 : AV) (t1 : AV) (t7 : Int) (k4 : AHeap → R) (self : Int → AHeap → R) (t8 : Int) (h_7 : AHeap) : R :=
 lett (decide (t8 < t7)) fun (t9 : Bool) =>
 ifB t9
 (
  obind (idxP 3 t1 t8) fun t10 =>
  obind (ldRow h_7 3 t10) fun t11 =>
  lett (newH h_7 124 [.int .i64 0, .str 0 0, .int .i64 0]) fun h_16 =>
  obind (stRow h_16 3 t11 (newP h_7)) fun h_18 =>
  obind (ldCell h_18 (AV.ptr (AHeap.next h_7) 0)) fun v13 =>
  obind (avInt .i64 v13) fun t13 =>
  lett ((t13 : Int) == 0) fun (t15 : Bool) =>
  lett (fun  (h_27 : AHeap) =>
   lett (IntKind.i64.wrap (t8 + 1)) fun (t46 : Int) =>
   self t46 h_27) fun k26 =>
  ifB t15
  (
   obind (nilC t0) fun t17 =>
   obind (fldP 0 t17) fun t18 =>
   obind (stRow h_18 1 [.bool true] t18) fun h_32 =>
   obind (nilC t0) fun t21 =>
   obind (fldP 1 t21) fun t22 =>
   obind (ldCell h_32 t22) fun v23 =>
   obind (ldCell h_32 (AV.ptr (AHeap.next h_7) 1)) fun v25 =>
   obind (avStr v25) fun t25 =>
   outK (opAppend Try.prog h_32 46 9 v23 (strA t25)) fun v26 h_39 =>
   obind (nilC t0) fun t27 =>
   obind (fldP 1 t27) fun t28 =>
   obind (stRow h_39 1 (AV.cells v26) t28) fun h_43 =>
   k26 h_43)
  (
   lett ((t13 : Int) == 1) fun (t30 : Bool) =>
   lett (fun  (h_48 : AHeap) =>
    k26 h_48) fun k47 =>
   ifB t30
   (
    obind (nilC t0) fun t33 =>
    obind (fldP 1 t33) fun t34 =>
    obind (ldCell h_18 t34) fun v35 =>
    obind (ldCell h_18 (AV.ptr (AHeap.next h_7) 2)) fun v37 =>
    obind (avInt .i64 v37) fun t37 =>
    outK (sliceA Try.prog h_18 46 v35 none (some (.int .i64 t37))) fun v38 h_54 =>
    obind (nilC t0) fun t39 =>
    obind (fldP 1 t39) fun t40 =>
    obind (stRow h_54 1 (AV.cells v38) t40) fun h_58 =>
    k47 h_58)
   (
    lett ((t13 : Int) == 2) fun (t42 : Bool) =>
    lett (fun  (h_63 : AHeap) =>
     k47 h_63) fun k62 =>
    ifB t42
    (
     obind (nilC t0) fun t45 =>
     obind (stRow h_18 2 ([.bool false, .nsl] : List AV) t45) fun h_65 =>
     k62 h_65)
    (
     k62 h_18))))
 (
  k4 h_7)
noncomputable def disk_content_do_L0 (t0 : AV) (t1 : AV) (t7 : Int) (k4 : AHeap → R) : Nat → Int → AHeap → R := iterR (fun _ _ => none) (disk_content_do_L0b t0 t1 t7 k4)
theorem disk_content_do_L0_s (t0 : AV) (t1 : AV) (t7 : Int) (k4 : AHeap → R) (m : Nat) : disk_content_do_L0 t0 t1 t7 k4 (m + 1) = disk_content_do_L0b t0 t1 t7 k4 (disk_content_do_L0 t0 t1 t7 k4 m) := rfl
noncomputable def disk_content_do (_ : CallF) (n : Nat) (t0 : AV) (t1 : AV) (h : AHeap) : R :=
 obind (lenL t1) fun t7 =>
 lett (fun  (h_5 : AHeap) =>
  some (.ret (.tup []), h_5)) fun k4 =>
 disk_content_do_L0 t0 t1 t7 k4 n 0 h
set_option maxHeartbeats 4000000 in
set_option maxRecDepth 20000 in
theorem disk_content_do_ok {call : CallF} (hc : SaysAll Try.prog call) {n : Nat} {t0 : AV} {t1 : AV} {h : AHeap} {rR : ARes} {hR : AHeap} (hF : disk_content_do call n t0 t1 h = some (rR, hR)) : Says Try.prog 72 [t0, t1] h rR hR := by
 unfold disk_content_do at hF
 refine sO Try.func72 fun w0 m0 => ?_
 refine wW [(0, t0), (1, t1)] ?_
 refine oG fun n1 => W.r ?_
 refine oA 6 t1 ?_
 refine oM 7 101 124 hF fun t7 hF => ?_
 refine oA 8 (.int .i64 0) ?_
 refine oV [(0, t0), (6, t1), (7, .int .i64 t7), (8, .int .i64 0)] (n1 ?_)
 obtain ⟨k4, e4, hF⟩ := lett_some hF
 have J4 : ∀  (h_5 : AHeap), k4 h_5 = some (rR, hR) → Go w0 m0 (Func.ntmps Try.f72) (Fin Try.prog Try.f72 w0 m0 rR hR .normal) [] [] h_5 := by
  intro  h_5 hF
  rw [e4] at hF
  exact lY hF [] [] res_nil
 refine W.blockK (by kernel_rfl) (fun K3 n3 s3 o3 q3 p3 => ?_)
 refine W.loopK (by kernel_rfl) (fun I6 K6 b6 n6 e6 q6 p6 => ?_)
 have L6 : ∀ (m : Nat) (t8 : Int) (h_7 : AHeap), disk_content_do_L0 t0 t1 t7 k4 m t8 h_7 = some (rR, hR) → Go w0 m0 (Func.ntmps Try.f72) I6 [(0, t0), (6, t1), (7, .int .i64 t7), (8, .int .i64 t8)] [] h_7 := by
  intro m
  induction m with
  | zero => intro t8 h_7 hF; cases hF
  | succ m ih6 =>
   intro t8 h_7 hF
   rw [disk_content_do_L0_s] at hF; unfold disk_content_do_L0b at hF
   refine b6 ?_
   refine oG fun n8 => W.r ?_
   refine oB 9 hF fun t9 hF => ?_
   refine oV [(0, t0), (6, t1), (7, .int .i64 t7), (8, .int .i64 t8), (9, .bool t9)] (n8 ?_)
   refine W.s (fun K10 n10 e10 q10 p10 => ?_)
   cases t9 with
   | true =>
    refine oT hF fun hF => ?_
    refine oZ (n10 ?_)
    refine oG fun n11 => ?_
    refine W.blockK (by kernel_rfl) (fun K12 n12 s12 o12 q12 p12 => ?_)
    refine oG fun n13 => W.r ?_
    refine oP 10 101 124 .i64 hF fun t10 hF => ?_
    refine oR 11 124 hF fun t11 hF => ?_
    refine oN 5 hF fun h_16 hF => ?_
    refine oW 124 (.agg t11) hF fun h_18 hF => ?_
    refine oV [(0, t0), (5, (newP h_7)), (6, t1), (7, .int .i64 t7), (8, .int .i64 t8)] (n13 ?_)
    refine oG fun n20 => W.r ?_
    refine oA 12 (AV.ptr (AHeap.next h_7) 0) ?_
    refine oLi 13 122 hF fun t13 hF => ?_
    refine oV [(0, t0), (5, (newP h_7)), (6, t1), (7, .int .i64 t7), (8, .int .i64 t8), (13, .int .i64 t13)] (n20 ?_)
    refine W.blockK (by kernel_rfl) (fun K23 n23 s23 o23 q23 p23 => ?_)
    refine oG fun n24 => W.r ?_
    refine oB 15 hF fun t15 hF => ?_
    refine oA 14 (.bool t15) ?_
    refine oV [(0, t0), (5, (newP h_7)), (6, t1), (7, .int .i64 t7), (8, .int .i64 t8), (13, .int .i64 t13), (14, .bool t15)] (n24 ?_)
    obtain ⟨k26, e26, hF⟩ := lett_some hF
    have J26 : ∀  (h_27 : AHeap), k26 h_27 = some (rR, hR) → Go w0 m0 (Func.ntmps Try.f72) (K23 .normal) [(0, t0), (6, t1), (7, .int .i64 t7), (8, .int .i64 t8)] [] h_27 := by
     intro  h_27 hF
     rw [e26] at hF
     refine n23 (n12 (n11 (W.r ?_)))
     refine oI 46 .i64 hF fun t46 hF => ?_
     refine oA 8 (.int .i64 t46) ?_
     refine oV [(0, t0), (6, t1), (7, .int .i64 t7), (8, .int .i64 t46)] (n6 ?_)
     exact gW _ (ih6 _ _ hF)
    cases t15 with
    | true =>
     refine oT hF fun hF => ?_
     refine oG fun n29 => W.r ?_
     refine oA 16 t0 ?_
     refine oC0 17 hF fun t17 hF => ?_
     refine oF 18 100 0 hF fun t18 hF => ?_
     refine oW 4 (.bool true) hF fun h_32 hF => ?_
     refine oV [(0, t0), (5, (newP h_7)), (6, t1), (7, .int .i64 t7), (8, .int .i64 t8)] (n29 ?_)
     refine W.draw (by kernel_rfl) (hc.ok w0) (plan := [0, 1, 2, 3, 4, 5, 6, 7, 8, 9, 10]) (by kernel_rfl) (by kernel_rfl) (by kernel_rfl) ?_
     refine WD.a 0 (some 19) t0 h_32 ?_
     refine WD.a 0 (some 20) t0 h_32 ?_
     obtain ⟨t21, e34, hF⟩ := obind_some hF
     refine WD.b 0 (some 21) t21 h_32 (nil_chk (h := h_32) e34) ?_
     obtain ⟨t22, e35, hF⟩ := obind_some hF
     refine WD.b 0 (some 22) t22 h_32 (field_ptr (P := Try.prog) (h := h_32) (s := 100) (f := 1) (by kernel_rfl) e35) ?_
     obtain ⟨v23, e36, hF⟩ := obind_some hF
     refine WD.b 1 (some 23) v23 h_32 (load_cell (P := Try.prog) (h := h_32) (t := 46) (by kernel_rfl) e36) ?_
     refine WD.a 0 (some 24) (AV.ptr (AHeap.next h_7) 1) h_32 ?_
     replace hF := obind_some hF; obtain ⟨v25, e37, hF⟩ := hF
     replace hF := obind_some hF; obtain ⟨t25, c38, hF⟩ := hF
     have c38 := avStr_some c38
     subst c38
     refine WD.b 1 (some 25) (strA t25) h_32 (load_cell (P := Try.prog) (h := h_32) (t := 9) (by kernel_rfl) e37) ?_
     obtain ⟨v26, h_39, e40, hF⟩ := outK_some hF
     refine WD.val (d := (some 26)) (v := v26) (h' := h_39) (by kernel_rfl) (by kernel_rfl) (Eq.trans (by kernel_rfl) e40) (k := 2) (by kernel_rfl) (fun _ => (by kernel_rfl)) (by decide) ?_
     obtain ⟨t27, e41, hF⟩ := obind_some hF
     refine WD.b 0 (some 27) t27 h_39 (nil_chk (h := h_39) e41) ?_
     obtain ⟨t28, e42, hF⟩ := obind_some hF
     refine WD.b 0 (some 28) t28 h_39 (field_ptr (P := Try.prog) (h := h_39) (s := 100) (f := 1) (by kernel_rfl) e42) ?_
     obtain ⟨h_43, e44, hF⟩ := obind_some hF
     refine WD.eff (h' := h_43) (by kernel_rfl) (by kernel_rfl) (Eq.trans (by kernel_rfl) (store_row (P := Try.prog) (h := h_39) (t := 46) (v := v26) (by kernel_rfl) (by kernel_rfl) e44)) (k := 2) (by kernel_rfl) (fun _ => (by kernel_rfl)) (by decide) ?_
     refine WD.nil ?_
     refine gW [(0, t0), (6, t1), (7, .int .i64 t7), (8, .int .i64 t8)] ?_
     exact gW _ (J26 _ hF)
    | false =>
     refine oU hF fun hF => ?_
     refine oG fun n45 => W.r ?_
     refine oB 30 hF fun t30 hF => ?_
     refine oA 29 (.bool t30) ?_
     refine oV [(0, t0), (5, (newP h_7)), (6, t1), (7, .int .i64 t7), (8, .int .i64 t8), (13, .int .i64 t13), (29, .bool t30)] (n45 ?_)
     obtain ⟨k47, e47, hF⟩ := lett_some hF
     have J47 : ∀  (h_48 : AHeap), k47 h_48 = some (rR, hR) → Go w0 m0 (Func.ntmps Try.f72) (K23 .normal) [(0, t0), (6, t1), (7, .int .i64 t7), (8, .int .i64 t8)] [] h_48 := by
      intro  h_48 hF
      rw [e47] at hF
      exact gW _ (J26 _ hF)
     cases t30 with
     | true =>
      refine oT hF fun hF => ?_
      refine W.draw (by kernel_rfl) (hc.ok w0) (plan := [0, 1, 2, 3, 4, 5, 6, 7, 8, 9, 10]) (by kernel_rfl) (by kernel_rfl) (by kernel_rfl) ?_
      refine WD.a 0 (some 31) t0 h_18 ?_
      refine WD.a 0 (some 32) t0 h_18 ?_
      obtain ⟨t33, e49, hF⟩ := obind_some hF
      refine WD.b 0 (some 33) t33 h_18 (nil_chk (h := h_18) e49) ?_
      obtain ⟨t34, e50, hF⟩ := obind_some hF
      refine WD.b 0 (some 34) t34 h_18 (field_ptr (P := Try.prog) (h := h_18) (s := 100) (f := 1) (by kernel_rfl) e50) ?_
      obtain ⟨v35, e51, hF⟩ := obind_some hF
      refine WD.b 1 (some 35) v35 h_18 (load_cell (P := Try.prog) (h := h_18) (t := 46) (by kernel_rfl) e51) ?_
      refine WD.a 0 (some 36) (AV.ptr (AHeap.next h_7) 2) h_18 ?_
      replace hF := obind_some hF; obtain ⟨v37, e52, hF⟩ := hF
      replace hF := obind_some hF; obtain ⟨t37, c53, hF⟩ := hF
      have c53 := avInt_some c53
      subst c53
      refine WD.b 1 (some 37) (.int .i64 t37) h_18 (load_cell (P := Try.prog) (h := h_18) (t := 3) (by kernel_rfl) e52) ?_
      obtain ⟨v38, h_54, e55, hF⟩ := outK_some hF
      refine WD.b 0 (some 38) v38 h_54 e55 ?_
      obtain ⟨t39, e56, hF⟩ := obind_some hF
      refine WD.b 0 (some 39) t39 h_54 (nil_chk (h := h_54) e56) ?_
      obtain ⟨t40, e57, hF⟩ := obind_some hF
      refine WD.b 0 (some 40) t40 h_54 (field_ptr (P := Try.prog) (h := h_54) (s := 100) (f := 1) (by kernel_rfl) e57) ?_
      obtain ⟨h_58, e59, hF⟩ := obind_some hF
      refine WD.eff (h' := h_58) (by kernel_rfl) (by kernel_rfl) (Eq.trans (by kernel_rfl) (store_row (P := Try.prog) (h := h_54) (t := 46) (v := v38) (by kernel_rfl) (by kernel_rfl) e59)) (k := 2) (by kernel_rfl) (fun _ => (by kernel_rfl)) (by decide) ?_
      refine WD.nil ?_
      refine gW [(0, t0), (6, t1), (7, .int .i64 t7), (8, .int .i64 t8)] ?_
      exact gW _ (J47 _ hF)
     | false =>
      refine oU hF fun hF => ?_
      refine oG fun n60 => W.r ?_
      refine oB 42 hF fun t42 hF => ?_
      refine oA 41 (.bool t42) ?_
      refine oV [(0, t0), (6, t1), (7, .int .i64 t7), (8, .int .i64 t8), (41, .bool t42)] (n60 ?_)
      obtain ⟨k62, e62, hF⟩ := lett_some hF
      have J62 : ∀  (h_63 : AHeap), k62 h_63 = some (rR, hR) → Go w0 m0 (Func.ntmps Try.f72) (K23 .normal) [(0, t0), (6, t1), (7, .int .i64 t7), (8, .int .i64 t8)] [] h_63 := by
       intro  h_63 hF
       rw [e62] at hF
       exact gW _ (J47 _ hF)
      cases t42 with
      | true =>
       refine oT hF fun hF => ?_
       refine W.r ?_
       refine oA 43 t0 ?_
       refine oA 44 (.agg ([.bool false, .nsl] : List AV)) ?_
       refine oC0 45 hF fun t45 hF => ?_
       refine oW 100 (.agg ([.bool false, .nsl] : List AV)) hF fun h_65 hF => ?_
       refine oV [(0, t0), (6, t1), (7, .int .i64 t7), (8, .int .i64 t8)] ?_
       exact gW _ (J62 _ hF)
      | false =>
       refine oU hF fun hF => ?_
       refine oZ ?_
       exact gW _ (J62 _ hF)
   | false =>
    refine oU hF fun hF => ?_
    refine W.exit (by kernel_rfl) ?_
    refine e10 (e6 ?_)
    refine s3 (by kernel_rfl) ?_
    exact gW _ (J4 _ hF)
 exact gW _ (L6 _ _ _ hF)
noncomputable def disk_Disk_step (_ : CallF) (_ : Nat) (t0 : AV) (h : AHeap) : R :=
 obind (nilC t0) fun t3 =>
 obind (fldP 161 t3) fun t4 =>
 obind (ldCell h t4) fun v5 =>
 obind (avInt .i64 v5) fun t5 =>
 lett (IntKind.i64.wrap (t5 + 1)) fun (t6 : Int) =>
 obind (nilC t0) fun t7 =>
 obind (fldP 161 t7) fun t8 =>
 obind (stRow h 1 [.int .i64 t6] t8) fun h_9 =>
 obind (nilC t0) fun t10 =>
 obind (fldP 160 t10) fun t11 =>
 obind (ldCell h_9 t11) fun v12 =>
 obind (avInt .i64 v12) fun t12 =>
 lett (decide (t12 > 0)) fun (t13 : Bool) =>
 lett (fun  (h_18 : AHeap) =>
  some (.ret (.tup []), h_18)) fun k17 =>
 ifB t13
 (
  obind (nilC t0) fun t15 =>
  obind (fldP 160 t15) fun t16 =>
  obind (ldCell h_9 t16) fun v17 =>
  obind (avInt .i64 v17) fun t17 =>
  lett (IntKind.i64.wrap (t17 - 1)) fun (t18 : Int) =>
  obind (nilC t0) fun t19 =>
  obind (fldP 160 t19) fun t20 =>
  obind (stRow h_9 1 [.int .i64 t18] t20) fun h_26 =>
  k17 h_26)
 (
  k17 h_9)
set_option maxHeartbeats 4000000 in
set_option maxRecDepth 20000 in
theorem disk_Disk_step_ok {call : CallF} (_ : SaysAll Try.prog call) {n : Nat} {t0 : AV} {h : AHeap} {rR : ARes} {hR : AHeap} (hF : disk_Disk_step call n t0 h = some (rR, hR)) : Says Try.prog 74 [t0] h rR hR := by
 unfold disk_Disk_step at hF
 refine sO Try.func74 fun w0 m0 => ?_
 refine wW [(0, t0)] ?_
 refine oG fun n1 => W.r ?_
 refine oA 2 t0 ?_
 refine oC0 3 hF fun t3 hF => ?_
 refine oF 4 106 2 hF fun t4 hF => ?_
 refine oLi 5 3 hF fun t5 hF => ?_
 refine oI 6 .i64 hF fun t6 hF => ?_
 refine oC0 7 hF fun t7 hF => ?_
 refine oF 8 106 2 hF fun t8 hF => ?_
 refine oW 3 (.int .i64 t6) hF fun h_9 hF => ?_
 refine oV [(0, t0)] (n1 ?_)
 refine oG fun n11 => W.r ?_
 refine oA 9 t0 ?_
 refine oC0 10 hF fun t10 hF => ?_
 refine oF 11 106 1 hF fun t11 hF => ?_
 refine oLi 12 3 hF fun t12 hF => ?_
 refine oB 13 hF fun t13 hF => ?_
 refine oV [(0, t0), (13, .bool t13)] (n11 ?_)
 obtain ⟨k17, e17, hF⟩ := lett_some hF
 have J17 : ∀  (h_18 : AHeap), k17 h_18 = some (rR, hR) → Go w0 m0 (Func.ntmps Try.f74) (Fin Try.prog Try.f74 w0 m0 rR hR .normal) [] [] h_18 := by
  intro  h_18 hF
  rw [e17] at hF
  exact lY hF [] [] res_nil
 cases t13 with
 | true =>
  refine oT hF fun hF => ?_
  refine W.r ?_
  refine oA 14 t0 ?_
  refine oC0 15 hF fun t15 hF => ?_
  refine oF 16 106 1 hF fun t16 hF => ?_
  refine oLi 17 3 hF fun t17 hF => ?_
  refine oI 18 .i64 hF fun t18 hF => ?_
  refine oC0 19 hF fun t19 hF => ?_
  refine oF 20 106 1 hF fun t20 hF => ?_
  refine oW 3 (.int .i64 t18) hF fun h_26 hF => ?_
  refine oV [] ?_
  exact gW _ (J17 _ hF)
 | false =>
  refine oU hF fun hF => ?_
  refine oZ ?_
  exact gW _ (J17 _ hF)
noncomputable def disk_isFile (_ : CallF) (_ : Nat) (t0 : Int) (h : AHeap) : R :=
 lett (decide (t0 ≥ 0)) fun (t4 : Bool) =>
 lett (fun (t8 : Bool) (h_4 : AHeap) =>
  some (.ret (.bool t8), h_4)) fun j8 =>
 ifB t4
 (
  lett (decide (t0 < 32)) fun (t7 : Bool) =>
  j8 t7 h)
 (
  j8 false h)
set_option maxHeartbeats 4000000 in
set_option maxRecDepth 20000 in
theorem disk_isFile_ok {call : CallF} (_ : SaysAll Try.prog call) {n : Nat} {t0 : Int} {h : AHeap} {rR : ARes} {hR : AHeap} (hF : disk_isFile call n t0 h = some (rR, hR)) : Says Try.prog 53 [.int .i64 t0] h rR hR := by
 unfold disk_isFile at hF
 refine sO Try.func53 fun w0 m0 => ?_
 refine wW [(0, .int .i64 t0)] ?_
 refine oG fun n1 => W.r ?_
 refine oA 2 (.bool false) ?_
 refine oV [(0, .int .i64 t0)] (n1 ?_)
 refine W.s (fun K2 n2 e2 q2 p2 => ?_)
 refine W.r ?_
 refine oA 3 (.int .i64 t0) ?_
 refine oB 4 hF fun t4 hF => ?_
 refine oA 5 (.bool t4) ?_
 obtain ⟨j8, e5, hF⟩ := lett_some hF
 have J6 : ∀ (t8 : Bool) (h_4 : AHeap), j8 t8 h_4 = some (rR, hR) → WL Try.prog w0 m0 (Func.ntmps Try.f53) (Code.ops (Code.p1 (Code.p2 (codeOf Try.f53)))) 6 K2 [(8, .bool t8)] [] h_4 := by
  intro t8 h_4 hF
  rw [e5] at hF
  refine oA 2 (.bool t8) ?_
  refine oV [(2, .bool t8)] (n2 (oY ?_))
  exact lZ hF [.tmp 2] [.bool t8] (rT res_nil)
 cases t4 with
 | true =>
  replace hF := ifB_t hF
  refine oA 6 (.int .i64 t0) ?_
  refine oB 7 hF fun t7 hF => ?_
  refine oA 8 (.bool t7) ?_
  exact lW _ (J6 _ _ hF)
 | false =>
  replace hF := ifB_f hF
  refine WL.o (some 6) ?_
  refine WL.o (some 7) ?_
  refine oA 8 (.bool false) ?_
  exact lW _ (J6 _ _ hF)
noncomputable def disk_Disk_Read (call : CallF) (_ : Nat) (t0 : AV) (t1 : Int) (h : AHeap) : R :=
 callN (call 50 [t0, .int .i64 t1] h) fun r10 h_4 =>
 obind (avInt .i64 r10) fun t10 =>
 lett ((t10 : Int) != 0) fun (t12 : Bool) =>
 ifB t12
 (
  some (.ret (.tup [strA ([] : Bytes), .int .i64 t10]), h_4))
 (
  obind (nilC t0) fun t16 =>
  obind (fldP 0 t16) fun t17 =>
  obind (idxA 32 5 t17 t1) fun t18 =>
  obind (fldP 2 t18) fun t19 =>
  obind (nilC t19) fun t21 =>
  obind (fldP 0 t21) fun t22 =>
  obind (ldCell h_4 t22) fun v23 =>
  obind (avBool v23) fun t23 =>
  lett (!t23) fun (t24 : Bool) =>
  ifB t24
  (
   some (.ret (.tup [strA ([] : Bytes), .int .i64 4]), h_4))
  (
   obind (nilC t19) fun t26 =>
   obind (fldP 1 t26) fun t27 =>
   obind (ldCell h_4 t27) fun v28 =>
   outK (opConv Try.prog h_4 46 9 (some v28)) fun v29 h_27 =>
   obind (avStr v29) fun t29 =>
   some (.ret (.tup [strA t29, .int .i64 0]), h_27)))
set_option maxHeartbeats 4000000 in
set_option maxRecDepth 20000 in
theorem disk_Disk_Read_ok {call : CallF} (hc : SaysAll Try.prog call) {n : Nat} {t0 : AV} {t1 : Int} {h : AHeap} {rR : ARes} {hR : AHeap} (hF : disk_Disk_Read call n t0 t1 h = some (rR, hR)) : Says Try.prog 60 [t0, .int .i64 t1] h rR hR := by
 unfold disk_Disk_Read at hF
 refine sO Try.func60 fun w0 m0 => ?_
 refine wW [(0, t0), (1, .int .i64 t1)] ?_
 refine oG fun n1 => W.r ?_
 refine oA 4 (strA ([] : Bytes)) ?_
 refine oA 5 (.int .i64 0) ?_
 refine oV [(0, t0), (1, .int .i64 t1)] (n1 ?_)
 refine oH fun n2 q2 => ?_
 refine oG fun n3 => W.r ?_
 refine oA 8 t0 ?_
 refine oA 9 (.int .i64 t1) ?_
 refine oCi hc 10 hF fun t10 h_4 hF => ?_
 refine oA 6 (.int .i64 t10) ?_
 refine oV [(0, t0), (1, .int .i64 t1), (6, .int .i64 t10)] (n3 ?_)
 refine oG fun n7 => W.r ?_
 refine oA 11 (.int .i64 t10) ?_
 refine oB 12 hF fun t12 hF => ?_
 refine oV [(0, t0), (1, .int .i64 t1), (6, .int .i64 t10), (12, .bool t12)] (n7 ?_)
 cases t12 with
 | true =>
  refine oT hF fun hF => ?_
  refine oG fun n9 => W.r ?_
  refine oA 13 (.int .i64 t10) ?_
  refine oA 4 (strA ([] : Bytes)) ?_
  refine oA 5 (.int .i64 t10) ?_
  refine oV [(4, strA ([] : Bytes)), (5, .int .i64 t10)] (n9 (oY (q2 ?_)))
  exact lZ hF [.tmp 4, .tmp 5] [strA ([] : Bytes), .int .i64 t10] (rT (rT res_nil))
 | false =>
  refine oU hF fun hF => ?_
  refine oZ (n2 ?_)
  refine oG fun n10 => W.r ?_
  refine oA 14 t0 ?_
  refine oA 15 (.int .i64 t1) ?_
  refine oC0 16 hF fun t16 hF => ?_
  refine oF 17 106 0 hF fun t17 hF => ?_
  refine oQ 18 104 103 .i64 hF fun t18 hF => ?_
  refine oF 19 103 1 hF fun t19 hF => ?_
  refine oA 7 t19 ?_
  refine oV [(7, t19)] (n10 ?_)
  refine oH fun n15 q15 => ?_
  refine oG fun n16 => W.r ?_
  refine oA 20 t19 ?_
  refine oC0 21 hF fun t21 hF => ?_
  refine oF 22 100 0 hF fun t22 hF => ?_
  refine oLb 23 4 hF fun t23 hF => ?_
  refine oB 24 hF fun t24 hF => ?_
  refine oV [(7, t19), (24, .bool t24)] (n16 ?_)
  cases t24 with
  | true =>
   refine oT hF fun hF => ?_
   refine oG fun n22 => W.r ?_
   refine oA 4 (strA ([] : Bytes)) ?_
   refine oA 5 (.int .i64 4) ?_
   refine oV [(4, strA ([] : Bytes)), (5, .int .i64 4)] (n22 (oY (q15 ?_)))
   exact lZ hF [.tmp 4, .tmp 5] [strA ([] : Bytes), .int .i64 4] (rT (rT res_nil))
  | false =>
   refine oU hF fun hF => ?_
   refine oZ (n15 ?_)
   refine oG fun n23 => W.r ?_
   refine oA 25 t19 ?_
   refine oC0 26 hF fun t26 hF => ?_
   refine oF 27 100 1 hF fun t27 hF => ?_
   refine oL 28 46 hF fun v28 hF => ?_
   replace hF := outK_some hF; obtain ⟨v29, h_27, e28, hF⟩ := hF
   replace hF := obind_some hF; obtain ⟨t29, c29, hF⟩ := hF
   have c29 := avStr_some c29
   subst c29
   refine WL.b (some 29) (strA t29) h_27 e28 ?_
   refine oA 4 (strA t29) ?_
   refine oA 5 (.int .i64 0) ?_
   refine oV [(4, strA t29), (5, .int .i64 0)] (n23 (oY ?_))
   exact lZ hF [.tmp 4, .tmp 5] [strA t29, .int .i64 0] (rT (rT res_nil))
noncomputable def disk_Disk_Sure (call : CallF) (_ : Nat) (t0 : AV) (t1 : Int) (h : AHeap) : R :=
 outK (opBin Try.prog h .eql 36 true (some t0) (some AV.nilp)) fun v8 h_4 =>
 obind (avBool v8) fun t8 =>
 lett (fun (t13 : Bool) (h_7 : AHeap) =>
  ifB t13
  (
   some (.ret (.tup [strA ([] : Bytes), .bool false]), h_7))
  (
   obind (nilC t0) fun t16 =>
   obind (fldP 0 t16) fun t17 =>
   obind (idxA 32 5 t17 t1) fun t18 =>
   obind (fldP 0 t18) fun t19 =>
   obind (nilC t19) fun t21 =>
   obind (fldP 1 t21) fun t22 =>
   obind (ldCell h_7 t22) fun v23 =>
   obind (nilC t19) fun t26 =>
   obind (fldP 0 t26) fun t27 =>
   obind (ldCell h_7 t27) fun v28 =>
   obind (avBool v28) fun t28 =>
   outK (opConv Try.prog h_7 46 9 (some v23)) fun v24 h_24 =>
   obind (avStr v24) fun t24 =>
   chk (reLoad Try.prog h_24 4 t27 (.bool t28) && (true && true)) <|
   some (.ret (.tup [strA t24, .bool t28]), h_24))) fun j13 =>
 ifB t8
 (
  j13 true h_4)
 (
  callN (call 53 [.int .i64 t1] h_4) fun r11 h_28 =>
  obind (avBool r11) fun t11 =>
  lett (!t11) fun (t12 : Bool) =>
  j13 t12 h_28)
set_option maxHeartbeats 4000000 in
set_option maxRecDepth 20000 in
theorem disk_Disk_Sure_ok {call : CallF} (hc : SaysAll Try.prog call) {n : Nat} {t0 : AV} {t1 : Int} {h : AHeap} {rR : ARes} {hR : AHeap} (hF : disk_Disk_Sure call n t0 t1 h = some (rR, hR)) : Says Try.prog 28 [t0, .int .i64 t1] h rR hR := by
 unfold disk_Disk_Sure at hF
 refine sO Try.func28 fun w0 m0 => ?_
 refine wW [(0, t0), (1, .int .i64 t1)] ?_
 refine oG fun n1 => W.r ?_
 refine oA 4 (strA ([] : Bytes)) ?_
 refine oA 5 (.bool false) ?_
 refine oV [(0, t0), (1, .int .i64 t1)] (n1 ?_)
 refine oH fun n2 q2 => ?_
 refine W.s (fun K3 n3 e3 q3 p3 => ?_)
 refine W.r ?_
 refine oA 7 t0 ?_
 replace hF := outK_some hF; obtain ⟨v8, h_4, e5, hF⟩ := hF
 replace hF := obind_some hF; obtain ⟨t8, c6, hF⟩ := hF
 have c6 := avBool_some c6
 subst c6
 refine WL.b (some 8) (.bool t8) h_4 e5 ?_
 refine oA 9 (.bool t8) ?_
 obtain ⟨j13, e8, hF⟩ := lett_some hF
 have J9 : ∀ (t13 : Bool) (h_7 : AHeap), j13 t13 h_7 = some (rR, hR) → WL Try.prog w0 m0 (Func.ntmps Try.f28) (Code.ops (Code.p1 (Code.p1 (Code.p2 (codeOf Try.f28))))) 7 K3 [(0, t0), (1, .int .i64 t1), (13, .bool t13)] [] h_7 := by
  intro t13 h_7 hF
  rw [e8] at hF
  refine oV [(0, t0), (1, .int .i64 t1), (13, .bool t13)] (n3 ?_)
  cases t13 with
  | true =>
   refine oT hF fun hF => ?_
   refine oG fun n10 => W.r ?_
   refine oA 4 (strA ([] : Bytes)) ?_
   refine oA 5 (.bool false) ?_
   refine oV [(4, strA ([] : Bytes)), (5, .bool false)] (n10 (oY (q2 ?_)))
   exact lZ hF [.tmp 4, .tmp 5] [strA ([] : Bytes), .bool false] (rT (rT res_nil))
  | false =>
   refine oU hF fun hF => ?_
   refine oZ (n2 ?_)
   refine oG fun n11 => W.r ?_
   refine oA 14 t0 ?_
   refine oA 15 (.int .i64 t1) ?_
   refine oC0 16 hF fun t16 hF => ?_
   refine oF 17 106 0 hF fun t17 hF => ?_
   refine oQ 18 104 103 .i64 hF fun t18 hF => ?_
   refine oF 19 103 0 hF fun t19 hF => ?_
   refine oA 6 t19 ?_
   refine oV [(6, t19)] (n11 ?_)
   refine oG fun n16 => ?_
   refine W.draw (by kernel_rfl) (hc.ok w0) (plan := [0, 1, 2, 3, 5, 6, 7, 8, 4, 9, 10]) (by kernel_rfl) (by kernel_rfl) (by kernel_rfl) ?_
   refine WD.a 0 (some 20) t19 h_7 ?_
   obtain ⟨t21, e17, hF⟩ := obind_some hF
   refine WD.b 0 (some 21) t21 h_7 (nil_chk (h := h_7) e17) ?_
   obtain ⟨t22, e18, hF⟩ := obind_some hF
   refine WD.b 0 (some 22) t22 h_7 (field_ptr (P := Try.prog) (h := h_7) (s := 100) (f := 1) (by kernel_rfl) e18) ?_
   obtain ⟨v23, e19, hF⟩ := obind_some hF
   refine WD.b 1 (some 23) v23 h_7 (load_cell (P := Try.prog) (h := h_7) (t := 46) (by kernel_rfl) e19) ?_
   refine WD.a 0 (some 25) t19 h_7 ?_
   obtain ⟨t26, e20, hF⟩ := obind_some hF
   refine WD.b 0 (some 26) t26 h_7 (nil_chk (h := h_7) e20) ?_
   obtain ⟨t27, e21, hF⟩ := obind_some hF
   refine WD.b 0 (some 27) t27 h_7 (field_ptr (P := Try.prog) (h := h_7) (s := 100) (f := 0) (by kernel_rfl) e21) ?_
   replace hF := obind_some hF; obtain ⟨v28, e22, hF⟩ := hF
   replace hF := obind_some hF; obtain ⟨t28, c23, hF⟩ := hF
   have c23 := avBool_some c23
   subst c23
   refine WD.b 1 (some 28) (.bool t28) h_7 (load_cell (P := Try.prog) (h := h_7) (t := 4) (by kernel_rfl) e22) ?_
   replace hF := outK_some hF; obtain ⟨v24, h_24, e25, hF⟩ := hF
   replace hF := obind_some hF; obtain ⟨t24, c26, hF⟩ := hF
   have c26 := avStr_some c26
   subst c26
   obtain ⟨k27, hF⟩ := chk_some hF
   refine WD.val (d := (some 24)) (v := strA t24) (h' := h_24) (by kernel_rfl) (by kernel_rfl) (Eq.trans (by kernel_rfl) e25) (k := 2) (by kernel_rfl) (fun _ => (Eq.trans (by kernel_rfl) k27)) (by decide) ?_
   refine WD.a 0 (some 4) (strA t24) h_24 ?_
   refine WD.a 0 (some 5) (.bool t28) h_24 ?_
   refine WD.nil ?_
   refine gW [(4, strA t24), (5, .bool t28)] (n16 (oY ?_))
   exact lZ hF [.tmp 4, .tmp 5] [strA t24, .bool t28] (rT (rT res_nil))
 cases t8 with
 | true =>
  replace hF := ifB_t hF
  refine WL.o (some 10) ?_
  refine WL.o (some 11) ?_
  refine WL.o (some 12) ?_
  refine oA 13 (.bool true) ?_
  exact lW _ (J9 _ _ hF)
 | false =>
  replace hF := ifB_f hF
  refine oA 10 (.int .i64 t1) ?_
  refine oCb hc 11 hF fun t11 h_28 hF => ?_
  refine oB 12 hF fun t12 hF => ?_
  refine oA 13 (.bool t12) ?_
  exact lW _ (J9 _ _ hF)
noncomputable def disk_Disk_Loose (call : CallF) (_ : Nat) (t0 : AV) (t1 : Int) (h : AHeap) : R :=
 outK (opBin Try.prog h .eql 36 true (some t0) (some AV.nilp)) fun v6 h_4 =>
 obind (avBool v6) fun t6 =>
 lett (fun (t11 : Bool) (h_7 : AHeap) =>
  ifB t11
  (
   some (.ret (.int .i64 0), h_7))
  (
   obind (nilC t0) fun t14 =>
   obind (fldP 0 t14) fun t15 =>
   obind (idxA 32 5 t15 t1) fun t16 =>
   obind (fldP 4 t16) fun t17 =>
   obind (ldCell h_7 t17) fun v18 =>
   obind (lenL v18) fun t19 =>
   some (.ret (.int .i64 t19), h_7))) fun j11 =>
 ifB t6
 (
  j11 true h_4)
 (
  callN (call 53 [.int .i64 t1] h_4) fun r9 h_18 =>
  obind (avBool r9) fun t9 =>
  lett (!t9) fun (t10 : Bool) =>
  j11 t10 h_18)
set_option maxHeartbeats 4000000 in
set_option maxRecDepth 20000 in
theorem disk_Disk_Loose_ok {call : CallF} (hc : SaysAll Try.prog call) {n : Nat} {t0 : AV} {t1 : Int} {h : AHeap} {rR : ARes} {hR : AHeap} (hF : disk_Disk_Loose call n t0 t1 h = some (rR, hR)) : Says Try.prog 30 [t0, .int .i64 t1] h rR hR := by
 unfold disk_Disk_Loose at hF
 refine sO Try.func30 fun w0 m0 => ?_
 refine wW [(0, t0), (1, .int .i64 t1)] ?_
 refine oG fun n1 => W.r ?_
 refine oA 4 (.int .i64 0) ?_
 refine oV [(0, t0), (1, .int .i64 t1)] (n1 ?_)
 refine oH fun n2 q2 => ?_
 refine W.s (fun K3 n3 e3 q3 p3 => ?_)
 refine W.r ?_
 refine oA 5 t0 ?_
 replace hF := outK_some hF; obtain ⟨v6, h_4, e5, hF⟩ := hF
 replace hF := obind_some hF; obtain ⟨t6, c6, hF⟩ := hF
 have c6 := avBool_some c6
 subst c6
 refine WL.b (some 6) (.bool t6) h_4 e5 ?_
 refine oA 7 (.bool t6) ?_
 obtain ⟨j11, e8, hF⟩ := lett_some hF
 have J9 : ∀ (t11 : Bool) (h_7 : AHeap), j11 t11 h_7 = some (rR, hR) → WL Try.prog w0 m0 (Func.ntmps Try.f30) (Code.ops (Code.p1 (Code.p1 (Code.p2 (codeOf Try.f30))))) 7 K3 [(0, t0), (1, .int .i64 t1), (11, .bool t11)] [] h_7 := by
  intro t11 h_7 hF
  rw [e8] at hF
  refine oV [(0, t0), (1, .int .i64 t1), (11, .bool t11)] (n3 ?_)
  cases t11 with
  | true =>
   refine oT hF fun hF => ?_
   refine oG fun n10 => W.r ?_
   refine oA 4 (.int .i64 0) ?_
   refine oV [(4, .int .i64 0)] (n10 (oY (q2 ?_)))
   exact lZ hF [.tmp 4] [.int .i64 0] (rT res_nil)
  | false =>
   refine oU hF fun hF => ?_
   refine oZ (n2 ?_)
   refine oG fun n11 => W.r ?_
   refine oA 12 t0 ?_
   refine oA 13 (.int .i64 t1) ?_
   refine oC0 14 hF fun t14 hF => ?_
   refine oF 15 106 0 hF fun t15 hF => ?_
   refine oQ 16 104 103 .i64 hF fun t16 hF => ?_
   refine oF 17 103 2 hF fun t17 hF => ?_
   refine oL 18 101 hF fun v18 hF => ?_
   refine oM 19 101 124 hF fun t19 hF => ?_
   refine oA 4 (.int .i64 t19) ?_
   refine oV [(4, .int .i64 t19)] (n11 (oY ?_))
   exact lZ hF [.tmp 4] [.int .i64 t19] (rT res_nil)
 cases t6 with
 | true =>
  replace hF := ifB_t hF
  refine WL.o (some 8) ?_
  refine WL.o (some 9) ?_
  refine WL.o (some 10) ?_
  refine oA 11 (.bool true) ?_
  exact lW _ (J9 _ _ hF)
 | false =>
  replace hF := ifB_f hF
  refine oA 8 (.int .i64 t1) ?_
  refine oCb hc 9 hF fun t9 h_18 hF => ?_
  refine oB 10 hF fun t10 hF => ?_
  refine oA 11 (.bool t10) ?_
  exact lW _ (J9 _ _ hF)
noncomputable def disk_Disk_Crash_L0b (call : CallF) (t0 : AV) (t1 : AV) (t2 : Int) (k11 : AHeap → R) (self : Int → AHeap → R) (t11 : Int) (h_20 : AHeap) : R :=
 lett (decide (t11 < 32)) fun (t12 : Bool) =>
 ifB t12
 (
  obind (lenL t1) fun t16 =>
  lett (decide (t11 < t16)) fun (t17 : Bool) =>
  lett (fun (t8 : Int) (h_33 : AHeap) =>
   obind (nilC t0) fun t24 =>
   obind (fldP 0 t24) fun t25 =>
   obind (idxA 32 5 t25 t11) fun t26 =>
   callN (call 49 [t26, .int .i64 t8, .int .i64 t2] h_33) fun _ h_37 =>
   lett (IntKind.i64.wrap (t11 + 1)) fun (t30 : Int) =>
   self t30 h_37) fun k32 =>
  ifB t17
  (
   obind (idxP 1 t1 t11) fun t20 =>
   obind (ldCell h_20 t20) fun v21 =>
   obind (avInt .i64 v21) fun t21 =>
   k32 t21 h_20)
  (
   k32 0 h_20))
 (
  k11 h_20)
noncomputable def disk_Disk_Crash_L0 (call : CallF) (t0 : AV) (t1 : AV) (t2 : Int) (k11 : AHeap → R) : Nat → Int → AHeap → R := iterR (fun _ _ => none) (disk_Disk_Crash_L0b call t0 t1 t2 k11)
theorem disk_Disk_Crash_L0_s (call : CallF) (t0 : AV) (t1 : AV) (t2 : Int) (k11 : AHeap → R) (m : Nat) : disk_Disk_Crash_L0 call t0 t1 t2 k11 (m + 1) = disk_Disk_Crash_L0b call t0 t1 t2 k11 (disk_Disk_Crash_L0 call t0 t1 t2 k11 m) := rfl
noncomputable def disk_Disk_Crash (call : CallF) (n : Nat) (t0 : AV) (t1 : AV) (t2 : Int) (h : AHeap) : R :=
 outK (opBin Try.prog h .eql 36 true (some t0) (some AV.nilp)) fun v10 h_4 =>
 obind (avBool v10) fun t10 =>
 ifB t10
 (
  some (.ret (.int .i64 1), h_4))
 (
  lett (fun  (h_12 : AHeap) =>
   obind (nilC t0) fun t32 =>
   obind (fldP 160 t32) fun t33 =>
   obind (stRow h_12 1 [.int .i64 (-1)] t33) fun h_16 =>
   some (.ret (.int .i64 0), h_16)) fun k11 =>
  disk_Disk_Crash_L0 call t0 t1 t2 k11 n 0 h_4)
set_option maxHeartbeats 4000000 in
set_option maxRecDepth 20000 in
theorem disk_Disk_Crash_ok {call : CallF} (hc : SaysAll Try.prog call) {n : Nat} {t0 : AV} {t1 : AV} {t2 : Int} {h : AHeap} {rR : ARes} {hR : AHeap} (hF : disk_Disk_Crash call n t0 t1 t2 h = some (rR, hR)) : Says Try.prog 25 [t0, t1, .int .i64 t2] h rR hR := by
 unfold disk_Disk_Crash at hF
 refine sO Try.func25 fun w0 m0 => ?_
 refine wW [(0, t0), (1, t1), (2, .int .i64 t2)] ?_
 refine oG fun n1 => W.r ?_
 refine oA 6 (.int .i64 0) ?_
 refine oV [(0, t0), (1, t1), (2, .int .i64 t2)] (n1 ?_)
 refine oH fun n2 q2 => ?_
 refine oG fun n3 => W.r ?_
 refine oA 9 t0 ?_
 replace hF := outK_some hF; obtain ⟨v10, h_4, e5, hF⟩ := hF
 replace hF := obind_some hF; obtain ⟨t10, c6, hF⟩ := hF
 have c6 := avBool_some c6
 subst c6
 refine WL.b (some 10) (.bool t10) h_4 e5 ?_
 refine oV [(0, t0), (1, t1), (2, .int .i64 t2), (10, .bool t10)] (n3 ?_)
 cases t10 with
 | true =>
  refine oT hF fun hF => ?_
  refine oG fun n7 => W.r ?_
  refine oA 6 (.int .i64 1) ?_
  refine oV [(6, .int .i64 1)] (n7 (oY (q2 ?_)))
  exact lZ hF [.tmp 6] [.int .i64 1] (rT res_nil)
 | false =>
  refine oU hF fun hF => ?_
  refine oZ (n2 ?_)
  refine W.s (fun K8 n8 e8 q8 p8 => ?_)
  refine oG fun n9 => W.r ?_
  refine oA 11 (.int .i64 0) ?_
  refine oV [(0, t0), (1, t1), (2, .int .i64 t2), (11, .int .i64 0)] (n9 ?_)
  obtain ⟨k11, e11, hF⟩ := lett_some hF
  have J11 : ∀  (h_12 : AHeap), k11 h_12 = some (rR, hR) → Go w0 m0 (Func.ntmps Try.f25) (K8 .normal) [(0, t0)] [] h_12 := by
   intro  h_12 hF
   rw [e11] at hF
   refine n8 ?_
   refine oG fun n13 => W.r ?_
   refine oA 31 t0 ?_
   refine oC0 32 hF fun t32 hF => ?_
   refine oF 33 106 1 hF fun t33 hF => ?_
   refine oW 3 (.int .i64 (-1)) hF fun h_16 hF => ?_
   refine oV [] (n13 ?_)
   refine oG fun n18 => W.r ?_
   refine oA 6 (.int .i64 0) ?_
   refine oV [(6, .int .i64 0)] (n18 (oY ?_))
   exact lZ hF [.tmp 6] [.int .i64 0] (rT res_nil)
  refine W.blockK (by kernel_rfl) (fun K10 n10 s10 o10 q10 p10 => ?_)
  refine W.loopK (by kernel_rfl) (fun I19 K19 b19 n19 e19 q19 p19 => ?_)
  have L19 : ∀ (m : Nat) (t11 : Int) (h_20 : AHeap), disk_Disk_Crash_L0 call t0 t1 t2 k11 m t11 h_20 = some (rR, hR) → Go w0 m0 (Func.ntmps Try.f25) I19 [(0, t0), (1, t1), (2, .int .i64 t2), (11, .int .i64 t11)] [] h_20 := by
   intro m
   induction m with
   | zero => intro t11 h_20 hF; cases hF
   | succ m ih19 =>
    intro t11 h_20 hF
    rw [disk_Disk_Crash_L0_s] at hF; unfold disk_Disk_Crash_L0b at hF
    refine b19 ?_
    refine oG fun n21 => W.r ?_
    refine oB 12 hF fun t12 hF => ?_
    refine oV [(0, t0), (1, t1), (2, .int .i64 t2), (11, .int .i64 t11), (12, .bool t12)] (n21 ?_)
    refine W.s (fun K23 n23 e23 q23 p23 => ?_)
    cases t12 with
    | true =>
     refine oT hF fun hF => ?_
     refine oZ (n23 ?_)
     refine oG fun n24 => ?_
     refine W.blockK (by kernel_rfl) (fun K25 n25 s25 o25 q25 p25 => ?_)
     refine oG fun n26 => W.r ?_
     refine oA 13 (.int .i64 t11) ?_
     refine oA 7 (.int .i64 t11) ?_
     refine oV [(0, t0), (1, t1), (2, .int .i64 t2), (7, .int .i64 t11), (11, .int .i64 t11)] (n26 ?_)
     refine oG fun n27 => W.r ?_
     refine oA 8 (.int .i64 0) ?_
     refine oV [(0, t0), (1, t1), (2, .int .i64 t2), (7, .int .i64 t11), (8, .int .i64 0), (11, .int .i64 t11)] (n27 ?_)
     refine W.s (fun K28 n28 e28 q28 p28 => ?_)
     refine oG fun n29 => W.r ?_
     refine oA 14 (.int .i64 t11) ?_
     refine oA 15 t1 ?_
     refine oM 16 44 3 hF fun t16 hF => ?_
     refine oB 17 hF fun t17 hF => ?_
     refine oV [(0, t0), (1, t1), (2, .int .i64 t2), (7, .int .i64 t11), (8, .int .i64 0), (11, .int .i64 t11), (17, .bool t17)] (n29 ?_)
     obtain ⟨k32, e32, hF⟩ := lett_some hF
     have J32 : ∀ (t8 : Int) (h_33 : AHeap), k32 t8 h_33 = some (rR, hR) → Go w0 m0 (Func.ntmps Try.f25) (K28 .normal) [(0, t0), (1, t1), (2, .int .i64 t2), (7, .int .i64 t11), (8, .int .i64 t8), (11, .int .i64 t11)] [] h_33 := by
      intro t8 h_33 hF
      rw [e32] at hF
      refine n28 (W.r ?_)
      refine oA 22 t0 ?_
      refine oA 23 (.int .i64 t11) ?_
      refine oC0 24 hF fun t24 hF => ?_
      refine oF 25 106 0 hF fun t25 hF => ?_
      refine oQ 26 104 103 .i64 hF fun t26 hF => ?_
      refine oA 27 (.int .i64 t8) ?_
      refine oA 28 (.int .i64 t2) ?_
      refine oC hc (some 29) hF fun r29 h_37 hF => ?_
      refine oV [(0, t0), (1, t1), (2, .int .i64 t2), (11, .int .i64 t11)] (n25 (n24 (W.r ?_)))
      refine oI 30 .i64 hF fun t30 hF => ?_
      refine oA 11 (.int .i64 t30) ?_
      refine oV [(0, t0), (1, t1), (2, .int .i64 t2), (11, .int .i64 t30)] (n19 ?_)
      exact gW _ (ih19 _ _ hF)
     cases t17 with
     | true =>
      refine oT hF fun hF => ?_
      refine W.r ?_
      refine oA 18 t1 ?_
      refine oA 19 (.int .i64 t11) ?_
      refine oP 20 44 3 .i64 hF fun t20 hF => ?_
      refine oLi 21 3 hF fun t21 hF => ?_
      refine oA 8 (.int .i64 t21) ?_
      refine oV [(0, t0), (1, t1), (2, .int .i64 t2), (7, .int .i64 t11), (8, .int .i64 t21), (11, .int .i64 t11)] ?_
      exact gW _ (J32 _ _ hF)
     | false =>
      refine oU hF fun hF => ?_
      refine oZ ?_
      exact gW _ (J32 _ _ hF)
    | false =>
     refine oU hF fun hF => ?_
     refine W.exit (by kernel_rfl) ?_
     refine e23 (e19 ?_)
     refine s10 (by kernel_rfl) ?_
     exact gW _ (J11 _ hF)
  exact gW _ (L19 _ _ _ hF)
noncomputable def disk_file_crash (call : CallF) (_ : Nat) (t0 : AV) (t1 : Int) (t2 : Int) (h : AHeap) : R :=
 lett (if 0 > t1 then 0 else t1) fun (t8 : Int) =>
 obind (nilC t0) fun t10 =>
 obind (fldP 4 t10) fun t11 =>
 obind (ldCell h t11) fun v12 =>
 obind (lenL v12) fun t13 =>
 lett (if t13 < t8 then t13 else t8) fun (t14 : Int) =>
 obind (nilC t0) fun t16 =>
 obind (fldP 0 t16) fun t17 =>
 obind (nilC t0) fun t19 =>
 obind (fldP 4 t19) fun t20 =>
 obind (ldCell h t20) fun v21 =>
 outK (sliceA Try.prog h 101 v21 none (some (.int .i64 t14))) fun v23 h_14 =>
 callN (call 72 [t17, v23] h_14) fun _ h_16 =>
 obind (nilC t0) fun t27 =>
 obind (fldP 4 t27) fun t28 =>
 obind (ldCell h_16 t28) fun v29 =>
 obind (lenL v29) fun t30 =>
 lett (decide (t14 < t30)) fun (t31 : Bool) =>
 lett (fun (t35 : Bool) (h_25 : AHeap) =>
  lett (fun  (h_29 : AHeap) =>
   obind (nilC t0) fun t69 =>
   obind (fldP 0 t69) fun t70 =>
   callN (call 73 [t70] h_29) fun r71 h_33 =>
   obind (avAgg r71) fun t71 =>
   obind (nilC t0) fun t72 =>
   obind (fldP 2 t72) fun t73 =>
   obind (stRow h_33 2 t71 t73) fun h_38 =>
   obind (nilC t0) fun t75 =>
   obind (fldP 4 t75) fun t76 =>
   obind (stRow h_38 1 (AV.cells AV.nsl) t76) fun h_42 =>
   some (.ret (.tup []), h_42)) fun k28 =>
  ifB t35
  (
   obind (nilC t0) fun t37 =>
   obind (fldP 4 t37) fun t38 =>
   obind (ldCell h_25 t38) fun v39 =>
   obind (idxP 3 v39 t14) fun t41 =>
   obind (ldRow h_25 3 t41) fun t42 =>
   lett (newH h_25 124 [.int .i64 0, .str 0 0, .int .i64 0]) fun h_50 =>
   obind (stRow h_50 3 t42 (newP h_25)) fun h_52 =>
   obind (ldCell h_52 (AV.ptr (AHeap.next h_25) 0)) fun v44 =>
   obind (avInt .i64 v44) fun t44 =>
   lett ((t44 : Int) == 0) fun (t45 : Bool) =>
   lett (fun (t50 : Bool) (h_58 : AHeap) =>
    lett (fun  (h_62 : AHeap) =>
     k28 h_62) fun k61 =>
    ifB t50
    (
     obind (ldCell h_58 (AV.ptr (AHeap.next h_25) 1)) fun v52 =>
     obind (avStr v52) fun t52 =>
     obind (ldCell h_58 (AV.ptr (AHeap.next h_25) 1)) fun v55 =>
     obind (avStr v55) fun t55 =>
     lett (IntKind.i64.wrap ((lenS t55) - 1)) fun (t57 : Int) =>
     lett (if t57 < t2 then t57 else t2) fun (t58 : Int) =>
     obind (sliceS t52 0 t58) fun t59 =>
     obind (stRow h_58 1 [strA t59] (AV.ptr (AHeap.next h_25) 1)) fun h_71 =>
     obind (nilC t0) fun t62 =>
     obind (fldP 0 t62) fun t63 =>
     obind (ldRow h_71 3 (newP h_25)) fun t64 =>
     outK (bldSl Try.prog h_71 101 1 [(0, .agg t64)]) fun v65 h_76 =>
     callN (call 72 [t63, v65] h_76) fun _ h_78 =>
     k61 h_78)
    (
     k61 h_58)) fun j50 =>
   ifB t45
   (
    obind (ldCell h_52 (AV.ptr (AHeap.next h_25) 1)) fun v48 =>
    obind (avStr v48) fun t48 =>
    lett (!eqS t48 ([] : Bytes)) fun (t49 : Bool) =>
    j50 t49 h_52)
   (
    j50 false h_52))
  (
   k28 h_25)) fun j35 =>
 ifB t31
 (
  lett (decide (t2 > 0)) fun (t34 : Bool) =>
  j35 t34 h_16)
 (
  j35 false h_16)
set_option maxHeartbeats 4000000 in
set_option maxRecDepth 20000 in
theorem disk_file_crash_ok {call : CallF} (hc : SaysAll Try.prog call) {n : Nat} {t0 : AV} {t1 : Int} {t2 : Int} {h : AHeap} {rR : ARes} {hR : AHeap} (hF : disk_file_crash call n t0 t1 t2 h = some (rR, hR)) : Says Try.prog 49 [t0, .int .i64 t1, .int .i64 t2] h rR hR := by
 unfold disk_file_crash at hF
 refine sO Try.func49 fun w0 m0 => ?_
 refine wW [(0, t0), (1, .int .i64 t1), (2, .int .i64 t2)] ?_
 refine oG fun n1 => W.r ?_
 refine oA 7 (.int .i64 t1) ?_
 refine oI 8 .i64 hF fun t8 hF => ?_
 refine oA 9 t0 ?_
 refine oC0 10 hF fun t10 hF => ?_
 refine oF 11 103 2 hF fun t11 hF => ?_
 refine oL 12 101 hF fun v12 hF => ?_
 refine oM 13 101 124 hF fun t13 hF => ?_
 refine oI 14 .i64 hF fun t14 hF => ?_
 refine oA 1 (.int .i64 t14) ?_
 refine oV [(0, t0), (1, .int .i64 t14), (2, .int .i64 t2)] (n1 ?_)
 refine oG fun n8 => ?_
 refine W.draw (by kernel_rfl) (hc.ok w0) (plan := [0, 1, 2, 3, 4, 5, 6, 7, 8, 9]) (by kernel_rfl) (by kernel_rfl) (by kernel_rfl) ?_
 refine WD.a 0 (some 15) t0 h ?_
 obtain ⟨t16, e9, hF⟩ := obind_some hF
 refine WD.b 0 (some 16) t16 h (nil_chk (h := h) e9) ?_
 obtain ⟨t17, e10, hF⟩ := obind_some hF
 refine WD.b 0 (some 17) t17 h (field_ptr (P := Try.prog) (h := h) (s := 103) (f := 0) (by kernel_rfl) e10) ?_
 refine WD.a 0 (some 18) t0 h ?_
 obtain ⟨t19, e11, hF⟩ := obind_some hF
 refine WD.b 0 (some 19) t19 h (nil_chk (h := h) e11) ?_
 obtain ⟨t20, e12, hF⟩ := obind_some hF
 refine WD.b 0 (some 20) t20 h (field_ptr (P := Try.prog) (h := h) (s := 103) (f := 2) (by kernel_rfl) e12) ?_
 obtain ⟨v21, e13, hF⟩ := obind_some hF
 refine WD.b 1 (some 21) v21 h (load_cell (P := Try.prog) (h := h) (t := 101) (by kernel_rfl) e13) ?_
 refine WD.a 0 (some 22) (.int .i64 t14) h ?_
 obtain ⟨v23, h_14, e15, hF⟩ := outK_some hF
 refine WD.b 0 (some 23) v23 h_14 e15 ?_
 obtain ⟨r24, h_16, e17, hF⟩ := callN_some hF
 refine WD.call (d := (some 24)) (by kernel_rfl) (by kernel_rfl) (by kernel_rfl) e17 (k := 2) (by kernel_rfl) (fun _ => (by kernel_rfl)) (by decide) ?_
 refine WD.nil ?_
 refine gW [(0, t0), (1, .int .i64 t14), (2, .int .i64 t2)] (n8 ?_)
 refine W.s (fun K18 n18 e18 q18 p18 => ?_)
 refine W.s (fun K19 n19 e19 q19 p19 => ?_)
 refine W.r ?_
 refine oA 25 (.int .i64 t14) ?_
 refine oA 26 t0 ?_
 refine oC0 27 hF fun t27 hF => ?_
 refine oF 28 103 2 hF fun t28 hF => ?_
 refine oL 29 101 hF fun v29 hF => ?_
 refine oM 30 101 124 hF fun t30 hF => ?_
 refine oB 31 hF fun t31 hF => ?_
 refine oA 32 (.bool t31) ?_
 obtain ⟨j35, e26, hF⟩ := lett_some hF
 have J27 : ∀ (t35 : Bool) (h_25 : AHeap), j35 t35 h_25 = some (rR, hR) → WL Try.prog w0 m0 (Func.ntmps Try.f49) (Code.ops (Code.p1 (Code.p1 (Code.p2 (Code.p2 (codeOf Try.f49)))))) 11 K19 [(0, t0), (1, .int .i64 t14), (2, .int .i64 t2), (35, .bool t35)] [] h_25 := by
  intro t35 h_25 hF
  rw [e26] at hF
  refine oV [(0, t0), (1, .int .i64 t14), (2, .int .i64 t2), (35, .bool t35)] (n19 ?_)
  obtain ⟨k28, e28, hF⟩ := lett_some hF
  have J28 : ∀  (h_29 : AHeap), k28 h_29 = some (rR, hR) → Go w0 m0 (Func.ntmps Try.f49) (K18 .normal) [(0, t0)] [] h_29 := by
   intro  h_29 hF
   rw [e28] at hF
   refine n18 ?_
   refine oG fun n30 => W.r ?_
   refine oA 67 t0 ?_
   refine oA 68 t0 ?_
   refine oC0 69 hF fun t69 hF => ?_
   refine oF 70 103 0 hF fun t70 hF => ?_
   refine oCa hc 71 hF fun t71 h_33 hF => ?_
   refine oC0 72 hF fun t72 hF => ?_
   refine oF 73 103 1 hF fun t73 hF => ?_
   refine oW 100 (.agg t71) hF fun h_38 hF => ?_
   refine oV [(0, t0)] (n30 (W.r ?_))
   refine oA 74 t0 ?_
   refine oC0 75 hF fun t75 hF => ?_
   refine oF 76 103 2 hF fun t76 hF => ?_
   refine oW 101 AV.nsl hF fun h_42 hF => ?_
   refine oV [] ?_
   exact lY hF [] [] res_nil
  cases t35 with
  | true =>
   refine oT hF fun hF => ?_
   refine oG fun n44 => W.r ?_
   refine oA 36 t0 ?_
   refine oC0 37 hF fun t37 hF => ?_
   refine oF 38 103 2 hF fun t38 hF => ?_
   refine oL 39 101 hF fun v39 hF => ?_
   refine oA 40 (.int .i64 t14) ?_
   refine oP 41 101 124 .i64 hF fun t41 hF => ?_
   refine oR 42 124 hF fun t42 hF => ?_
   refine oN 6 hF fun h_50 hF => ?_
   refine oW 124 (.agg t42) hF fun h_52 hF => ?_
   refine oV [(0, t0), (2, .int .i64 t2), (6, (newP h_25))] (n44 ?_)
   refine W.s (fun K54 n54 e54 q54 p54 => ?_)
   refine W.r ?_
   refine oA 43 (AV.ptr (AHeap.next h_25) 0) ?_
   refine oLi 44 122 hF fun t44 hF => ?_
   refine oB 45 hF fun t45 hF => ?_
   refine oA 46 (.bool t45) ?_
   obtain ⟨j50, e59, hF⟩ := lett_some hF
   have J60 : ∀ (t50 : Bool) (h_58 : AHeap), j50 t50 h_58 = some (rR, hR) → WL Try.prog w0 m0 (Func.ntmps Try.f49) (Code.ops (Code.p1 (Code.p2 (Code.p1 (Code.p2 (Code.p1 (Code.p2 (Code.p2 (codeOf Try.f49))))))))) 8 K54 [(0, t0), (2, .int .i64 t2), (6, (newP h_25)), (50, .bool t50)] [] h_58 := by
    intro t50 h_58 hF
    rw [e59] at hF
    refine oV [(0, t0), (2, .int .i64 t2), (6, (newP h_25)), (50, .bool t50)] (n54 ?_)
    obtain ⟨k61, e61, hF⟩ := lett_some hF
    have J61 : ∀  (h_62 : AHeap), k61 h_62 = some (rR, hR) → Go w0 m0 (Func.ntmps Try.f49) (K18 .normal) [(0, t0)] [] h_62 := by
     intro  h_62 hF
     rw [e61] at hF
     exact gW _ (J28 _ hF)
    cases t50 with
    | true =>
     refine oT hF fun hF => ?_
     refine oG fun n63 => W.r ?_
     refine oA 51 (AV.ptr (AHeap.next h_25) 1) ?_
     refine oLs 52 9 hF fun t52 hF => ?_
     refine oA 53 (.int .i64 t2) ?_
     refine oA 54 (AV.ptr (AHeap.next h_25) 1) ?_
     refine oLs 55 9 hF fun t55 hF => ?_
     refine oA 56 (.int .i64 (lenS t55)) ?_
     refine oI 57 .i64 hF fun t57 hF => ?_
     refine oI 58 .i64 hF fun t58 hF => ?_
     obtain ⟨t59, e70, hF⟩ := obind_some hF
     refine WL.b (some 59) (strA t59) h_58 (slice_str (P := Try.prog) (h := h_58) (t := 9) (A := none) (B := (some (.int .i64 t58))) (by kernel_rfl) (.inr ⟨rfl, rfl⟩) (.inl ⟨_, rfl⟩) e70) ?_
     refine oA 60 (AV.ptr (AHeap.next h_25) 1) ?_
     refine oW 9 (strA t59) hF fun h_71 hF => ?_
     refine oV [(0, t0), (6, (newP h_25))] (n63 ?_)
     refine W.draw (by kernel_rfl) (hc.ok w0) (plan := [0, 1, 2, 3, 4, 5]) (by kernel_rfl) (by kernel_rfl) (by kernel_rfl) ?_
     refine WD.a 0 (some 61) t0 h_71 ?_
     obtain ⟨t62, e73, hF⟩ := obind_some hF
     refine WD.b 0 (some 62) t62 h_71 (nil_chk (h := h_71) e73) ?_
     obtain ⟨t63, e74, hF⟩ := obind_some hF
     refine WD.b 0 (some 63) t63 h_71 (field_ptr (P := Try.prog) (h := h_71) (s := 103) (f := 0) (by kernel_rfl) e74) ?_
     obtain ⟨t64, e75, hF⟩ := obind_some hF
     refine WD.b 1 (some 64) (.agg t64) h_71 (load_row (P := Try.prog) (h := h_71) (t := 124) (by kernel_rfl) (by kernel_rfl) e75) ?_
     obtain ⟨v65, h_76, e77, hF⟩ := outK_some hF
     refine WD.val (d := (some 65)) (v := v65) (h' := h_76) (by kernel_rfl) (by kernel_rfl) (Eq.trans (by kernel_rfl) e77) (k := 2) (by kernel_rfl) (fun _ => (by kernel_rfl)) (by decide) ?_
     obtain ⟨r66, h_78, e79, hF⟩ := callN_some hF
     refine WD.call (d := (some 66)) (by kernel_rfl) (by kernel_rfl) (by kernel_rfl) e79 (k := 2) (by kernel_rfl) (fun _ => (by kernel_rfl)) (by decide) ?_
     refine WD.nil ?_
     refine gW [(0, t0)] ?_
     exact gW _ (J61 _ hF)
    | false =>
     refine oU hF fun hF => ?_
     refine oZ ?_
     exact gW _ (J61 _ hF)
   cases t45 with
   | true =>
    replace hF := ifB_t hF
    refine oA 47 (AV.ptr (AHeap.next h_25) 1) ?_
    refine oLs 48 9 hF fun t48 hF => ?_
    refine oB 49 hF fun t49 hF => ?_
    refine oA 50 (.bool t49) ?_
    exact lW _ (J60 _ _ hF)
   | false =>
    replace hF := ifB_f hF
    refine WL.o (some 47) ?_
    refine WL.o (some 48) ?_
    refine WL.o (some 49) ?_
    refine oA 50 (.bool false) ?_
    exact lW _ (J60 _ _ hF)
  | false =>
   refine oU hF fun hF => ?_
   refine oZ ?_
   exact gW _ (J28 _ hF)
 cases t31 with
 | true =>
  replace hF := ifB_t hF
  refine oA 33 (.int .i64 t2) ?_
  refine oB 34 hF fun t34 hF => ?_
  refine oA 35 (.bool t34) ?_
  exact lW _ (J27 _ _ hF)
 | false =>
  replace hF := ifB_f hF
  refine WL.o (some 33) ?_
  refine WL.o (some 34) ?_
  refine oA 35 (.bool false) ?_
  exact lW _ (J27 _ _ hF)
noncomputable def disk_content_copy (call : CallF) (_ : Nat) (t0 : AV) (h : AHeap) : R :=
 lett (newH h 100 [.bool false, .nsl]) fun h_2 =>
 obind (nilC t0) fun t4 =>
 obind (fldP 0 t4) fun t5 =>
 obind (ldCell h_2 t5) fun v6 =>
 obind (avBool v6) fun t6 =>
 obind (nilC t0) fun t8 =>
 obind (fldP 1 t8) fun t9 =>
 obind (ldCell h_2 t9) fun v10 =>
 callN (call 86 [v10] h_2) fun r11 h_12 =>
 chk (true && (reLoad Try.prog h_12 4 t5 (.bool t6) && true)) <|
 obind (bldS Try.prog 100 [(0, .bool t6), (1, r11)]) fun t12 =>
 obind (stRow h_12 2 t12 (newP h)) fun h_16 =>
 obind (ldRow h_16 2 (newP h)) fun w2 =>
 some (.ret (.agg w2), h_16)
set_option maxHeartbeats 4000000 in
set_option maxRecDepth 20000 in
theorem disk_content_copy_ok {call : CallF} (hc : SaysAll Try.prog call) {n : Nat} {t0 : AV} {h : AHeap} {rR : ARes} {hR : AHeap} (hF : disk_content_copy call n t0 h = some (rR, hR)) : Says Try.prog 73 [t0] h rR hR := by
 unfold disk_content_copy at hF
 refine sO Try.func73 fun w0 m0 => ?_
 refine wW [(0, t0)] ?_
 refine oG fun n1 => W.r ?_
 refine oN 2 hF fun h_2 hF => ?_
 refine oV [(0, t0), (2, (newP h))] (n1 ?_)
 refine oG fun n4 => ?_
 refine W.draw (by kernel_rfl) (hc.ok w0) (plan := [0, 1, 2, 3, 4, 5, 6, 7, 8, 9, 10]) (by kernel_rfl) (by kernel_rfl) (by kernel_rfl) ?_
 refine WD.a 0 (some 3) t0 h_2 ?_
 obtain ⟨t4, e5, hF⟩ := obind_some hF
 refine WD.b 0 (some 4) t4 h_2 (nil_chk (h := h_2) e5) ?_
 obtain ⟨t5, e6, hF⟩ := obind_some hF
 refine WD.b 0 (some 5) t5 h_2 (field_ptr (P := Try.prog) (h := h_2) (s := 100) (f := 0) (by kernel_rfl) e6) ?_
 replace hF := obind_some hF; obtain ⟨v6, e7, hF⟩ := hF
 replace hF := obind_some hF; obtain ⟨t6, c8, hF⟩ := hF
 have c8 := avBool_some c8
 subst c8
 refine WD.b 1 (some 6) (.bool t6) h_2 (load_cell (P := Try.prog) (h := h_2) (t := 4) (by kernel_rfl) e7) ?_
 refine WD.a 0 (some 7) t0 h_2 ?_
 obtain ⟨t8, e9, hF⟩ := obind_some hF
 refine WD.b 0 (some 8) t8 h_2 (nil_chk (h := h_2) e9) ?_
 obtain ⟨t9, e10, hF⟩ := obind_some hF
 refine WD.b 0 (some 9) t9 h_2 (field_ptr (P := Try.prog) (h := h_2) (s := 100) (f := 1) (by kernel_rfl) e10) ?_
 obtain ⟨v10, e11, hF⟩ := obind_some hF
 refine WD.b 1 (some 10) v10 h_2 (load_cell (P := Try.prog) (h := h_2) (t := 46) (by kernel_rfl) e11) ?_
 obtain ⟨r11, h_12, e13, hF⟩ := callN_some hF
 obtain ⟨k14, hF⟩ := chk_some hF
 refine WD.call (d := (some 11)) (by kernel_rfl) (by kernel_rfl) (by kernel_rfl) e13 (k := 2) (by kernel_rfl) (fun _ => (Eq.trans (by kernel_rfl) k14)) (by decide) ?_
 obtain ⟨t12, e15, hF⟩ := obind_some hF
 refine WD.val (d := (some 12)) (v := .agg t12) (h' := h_12) (by kernel_rfl) (by kernel_rfl) (bld_ok (by kernel_rfl) e15) (k := 0) (by kernel_rfl) (fun e => absurd e (by decide)) (by decide) ?_
 obtain ⟨h_16, e17, hF⟩ := obind_some hF
 refine WD.eff (h' := h_16) (by kernel_rfl) (by kernel_rfl) (Eq.trans (by kernel_rfl) (store_row (P := Try.prog) (h := h_12) (t := 100) (v := (.agg t12)) (by kernel_rfl) (by kernel_rfl) e17)) (k := 2) (by kernel_rfl) (fun _ => (by kernel_rfl)) (by decide) ?_
 refine WD.nil ?_
 refine gW [(2, (newP h))] (n4 (oY ?_))
 obtain ⟨w2, e18, hF⟩ := obind_some hF
 exact lZ hF [.cell 2 100] [.agg w2] (rY e18 res_nil)
noncomputable def slices_Clone___byte_byte_ (_ : CallF) (_ : Nat) (t0 : AV) (h : AHeap) : R :=
 outK (opBin Try.prog h .eql 46 true (some t0) (some AV.nsl)) fun v4 h_4 =>
 obind (avBool v4) fun t4 =>
 ifB t4
 (
  some (.ret (AV.nsl), h_4))
 (
  outK (bldSl Try.prog h_4 46 0 []) fun v5 h_9 =>
  outK (opAppend Try.prog h_9 46 46 v5 t0) fun v7 h_11 =>
  some (.ret (v7), h_11))
set_option maxHeartbeats 4000000 in
set_option maxRecDepth 20000 in
theorem slices_Clone___byte_byte__ok {call : CallF} (_ : SaysAll Try.prog call) {n : Nat} {t0 : AV} {h : AHeap} {rR : ARes} {hR : AHeap} (hF : slices_Clone___byte_byte_ call n t0 h = some (rR, hR)) : Says Try.prog 86 [t0] h rR hR := by
 unfold slices_Clone___byte_byte_ at hF
 refine sO Try.func86 fun w0 m0 => ?_
 refine wW [(0, t0)] ?_
 refine oG fun n1 => W.r ?_
 refine oA 2 AV.nsl ?_
 refine oV [(0, t0)] (n1 ?_)
 refine oH fun n2 q2 => ?_
 refine oG fun n3 => W.r ?_
 refine oA 3 t0 ?_
 replace hF := outK_some hF; obtain ⟨v4, h_4, e5, hF⟩ := hF
 replace hF := obind_some hF; obtain ⟨t4, c6, hF⟩ := hF
 have c6 := avBool_some c6
 subst c6
 refine WL.b (some 4) (.bool t4) h_4 e5 ?_
 refine oV [(0, t0), (4, .bool t4)] (n3 ?_)
 cases t4 with
 | true =>
  refine oT hF fun hF => ?_
  refine oG fun n7 => W.r ?_
  refine oA 2 AV.nsl ?_
  refine oV [(2, AV.nsl)] (n7 (oY (q2 ?_)))
  exact lZ hF [.tmp 2] [AV.nsl] (rT res_nil)
 | false =>
  refine oU hF fun hF => ?_
  refine oZ (n2 ?_)
  refine oG fun n8 => W.r ?_
  refine oK 5 hF fun v5 h_9 hF => ?_
  refine oA 6 t0 ?_
  refine oK 7 hF fun v7 h_11 hF => ?_
  refine oA 2 v7 ?_
  refine oV [(2, v7)] (n8 (oY ?_))
  exact lZ hF [.tmp 2] [v7] (rT res_nil)
noncomputable def sum_More_L0b (t1 : Bytes) (h : AHeap) (k13 : Int → AHeap → R) (self : Int → Int → AHeap → R) (t6_18 : Int) (t13 : Int) (h_19 : AHeap) : R :=
 lett (decide (t13 < (lenS t1))) fun (t14 : Bool) =>
 ifB t14
 (
  obind (idxS t1 t13) fun t19 =>
  lett (IntKind.u32.wrap t19) fun (t20 : Int) =>
  lett (xorI .u32 t6_18 t20) fun (t21 : Int) =>
  obind (shrI .u32 t21 4) fun t23 =>
  obind (remI .u32 t21 16) fun t25 =>
  obind (idxA 16 1 (newP h) t25) fun t26 =>
  obind (ldCell h_19 t26) fun v27 =>
  obind (avInt .u32 v27) fun t27 =>
  lett (xorI .u32 t23 t27) fun (t28 : Int) =>
  obind (shrI .u32 t28 4) fun t30 =>
  obind (remI .u32 t28 16) fun t32 =>
  obind (idxA 16 1 (newP h) t32) fun t33 =>
  obind (ldCell h_19 t33) fun v34 =>
  obind (avInt .u32 v34) fun t34 =>
  lett (xorI .u32 t30 t34) fun (t35 : Int) =>
  lett (IntKind.i64.wrap (t13 + 1)) fun (t36 : Int) =>
  self t35 t36 h_19)
 (
  k13 t6_18 h_19)
noncomputable def sum_More_L0 (t1 : Bytes) (h : AHeap) (k13 : Int → AHeap → R) : Nat → Int → Int → AHeap → R := iterR (fun _ _ _ => none) (sum_More_L0b t1 h k13)
theorem sum_More_L0_s (t1 : Bytes) (h : AHeap) (k13 : Int → AHeap → R) (m : Nat) : sum_More_L0 t1 h k13 (m + 1) = sum_More_L0b t1 h k13 (sum_More_L0 t1 h k13 m) := rfl
noncomputable def sum_More (_ : CallF) (n : Nat) (t0 : Int) (t1 : Bytes) (h : AHeap) : R :=
 obind (bldS Try.prog 177 [(0, .int .u32 0), (1, .int .u32 274646895), (2, .int .u32 549293790), (3, .int .u32 820201905), (4, .int .u32 1098587580), (5, .int .u32 1361435347), (6, .int .u32 1640403810), (7, .int .u32 1905808397), (8, .int .u32 2197175160), (9, .int .u32 2460548119), (10, .int .u32 2722870694), (11, .int .u32 2987750089), (12, .int .u32 3280807620), (13, .int .u32 3553878443), (14, .int .u32 3811616794), (15, .int .u32 4084100981)]) fun t8 =>
 lett (newH h 177 [.int .u32 0, .int .u32 0, .int .u32 0, .int .u32 0, .int .u32 0, .int .u32 0, .int .u32 0, .int .u32 0, .int .u32 0, .int .u32 0, .int .u32 0, .int .u32 0, .int .u32 0, .int .u32 0, .int .u32 0, .int .u32 0]) fun h_4 =>
 obind (stRow h_4 16 t8 (newP h)) fun h_6 =>
 lett (comI .u32 t0) fun (t10 : Int) =>
 lett (fun (t6 : Int) (h_14 : AHeap) =>
  lett (comI .u32 t6) fun (t38 : Int) =>
  some (.ret (.int .u32 t38), h_14)) fun k13 =>
 sum_More_L0 t1 h k13 n t10 0 h_6
set_option maxHeartbeats 4000000 in
set_option maxRecDepth 20000 in
theorem sum_More_ok {call : CallF} (_ : SaysAll Try.prog call) {n : Nat} {t0 : Int} {t1 : Bytes} {h : AHeap} {rR : ARes} {hR : AHeap} (hF : sum_More call n t0 t1 h = some (rR, hR)) : Says Try.prog 100 [.int .u32 t0, strA t1] h rR hR := by
 unfold sum_More at hF
 refine sO Try.func100 fun w0 m0 => ?_
 refine wW [(0, .int .u32 t0), (1, strA t1)] ?_
 refine oG fun n1 => W.r ?_
 refine oA 4 (.int .u32 0) ?_
 refine oV [(0, .int .u32 t0), (1, strA t1)] (n1 ?_)
 refine oG fun n2 => W.r ?_
 obtain ⟨t8, e3, hF⟩ := obind_some hF
 refine WL.val (d := (some 8)) (v := .agg t8) (h' := h) (by kernel_rfl) (by kernel_rfl) (bld_ok (by kernel_rfl) e3) ?_
 refine oN 5 hF fun h_4 hF => ?_
 refine oW 177 (.agg t8) hF fun h_6 hF => ?_
 refine oV [(0, .int .u32 t0), (1, strA t1), (5, (newP h))] (n2 ?_)
 refine oG fun n8 => W.r ?_
 refine oA 9 (.int .u32 t0) ?_
 refine oI 10 .u32 hF fun t10 hF => ?_
 refine oA 6 (.int .u32 t10) ?_
 refine oV [(1, strA t1), (5, (newP h)), (6, .int .u32 t10)] (n8 ?_)
 refine W.s (fun K10 n10 e10 q10 p10 => ?_)
 refine oG fun n11 => W.r ?_
 refine oA 11 (strA t1) ?_
 refine oA 12 (.int .i64 (lenS t1)) ?_
 refine oA 13 (.int .i64 0) ?_
 refine oV [(1, strA t1), (5, (newP h)), (6, .int .u32 t10), (12, .int .i64 (lenS t1)), (13, .int .i64 0)] (n11 ?_)
 obtain ⟨k13, e13, hF⟩ := lett_some hF
 have J13 : ∀ (t6 : Int) (h_14 : AHeap), k13 t6 h_14 = some (rR, hR) → Go w0 m0 (Func.ntmps Try.f100) (K10 .normal) [(6, .int .u32 t6)] [] h_14 := by
  intro t6 h_14 hF
  rw [e13] at hF
  refine n10 ?_
  refine oG fun n15 => W.r ?_
  refine oA 37 (.int .u32 t6) ?_
  refine oI 38 .u32 hF fun t38 hF => ?_
  refine oA 4 (.int .u32 t38) ?_
  refine oV [(4, .int .u32 t38)] (n15 (oY ?_))
  exact lZ hF [.tmp 4] [.int .u32 t38] (rT res_nil)
 refine W.blockK (by kernel_rfl) (fun K12 n12 s12 o12 q12 p12 => ?_)
 refine W.loopK (by kernel_rfl) (fun I17 K17 b17 n17 e17 q17 p17 => ?_)
 have L17 : ∀ (m : Nat) (t6_18 : Int) (t13 : Int) (h_19 : AHeap), sum_More_L0 t1 h k13 m t6_18 t13 h_19 = some (rR, hR) → Go w0 m0 (Func.ntmps Try.f100) I17 [(1, strA t1), (5, (newP h)), (6, .int .u32 t6_18), (12, .int .i64 (lenS t1)), (13, .int .i64 t13)] [] h_19 := by
  intro m
  induction m with
  | zero => intro t6_18 t13 h_19 hF; cases hF
  | succ m ih17 =>
   intro t6_18 t13 h_19 hF
   rw [sum_More_L0_s] at hF; unfold sum_More_L0b at hF
   refine b17 ?_
   refine oG fun n20 => W.r ?_
   refine oB 14 hF fun t14 hF => ?_
   refine oV [(1, strA t1), (5, (newP h)), (6, .int .u32 t6_18), (12, .int .i64 (lenS t1)), (13, .int .i64 t13), (14, .bool t14)] (n20 ?_)
   refine W.s (fun K22 n22 e22 q22 p22 => ?_)
   cases t14 with
   | true =>
    refine oT hF fun hF => ?_
    refine oZ (n22 ?_)
    refine oG fun n23 => ?_
    refine W.blockK (by kernel_rfl) (fun K24 n24 s24 o24 q24 p24 => ?_)
    refine oG fun n25 => W.r ?_
    refine oA 15 (.int .i64 t13) ?_
    refine oA 7 (.int .i64 t13) ?_
    refine oV [(1, strA t1), (5, (newP h)), (6, .int .u32 t6_18), (7, .int .i64 t13), (12, .int .i64 (lenS t1)), (13, .int .i64 t13)] (n25 ?_)
    refine oG fun n26 => W.r ?_
    refine oA 16 (.int .u32 t6_18) ?_
    refine oA 17 (strA t1) ?_
    refine oA 18 (.int .i64 t13) ?_
    refine oX 19 9 .i64 hF fun t19 hF => ?_
    refine oI 20 .u32 hF fun t20 hF => ?_
    refine oI 21 .u32 hF fun t21 hF => ?_
    refine oA 6 (.int .u32 t21) ?_
    refine oV [(1, strA t1), (5, (newP h)), (6, .int .u32 t21), (12, .int .i64 (lenS t1)), (13, .int .i64 t13)] (n26 ?_)
    refine oG fun n30 => W.r ?_
    refine oA 22 (.int .u32 t21) ?_
    obtain ⟨t23, e31, hF⟩ := obind_some hF
    refine WL.b (some 23) (.int .u32 t23) h_19 (shr_int (P := Try.prog) (h := h_19) (t := 128) (k' := .u64) (lit := true) e31) ?_
    refine oA 24 (.int .u32 t21) ?_
    obtain ⟨t25, e32, hF⟩ := obind_some hF
    refine WL.b (some 25) (.int .u32 t25) h_19 (rem_int (P := Try.prog) (h := h_19) (t := 128) (lit := true) e32) ?_
    refine oQ 26 177 128 .u32 hF fun t26 hF => ?_
    refine oLi 27 128 hF fun t27 hF => ?_
    refine oI 28 .u32 hF fun t28 hF => ?_
    refine oA 6 (.int .u32 t28) ?_
    refine oV [(1, strA t1), (5, (newP h)), (6, .int .u32 t28), (12, .int .i64 (lenS t1)), (13, .int .i64 t13)] (n30 (W.r ?_))
    refine oA 29 (.int .u32 t28) ?_
    obtain ⟨t30, e37, hF⟩ := obind_some hF
    refine WL.b (some 30) (.int .u32 t30) h_19 (shr_int (P := Try.prog) (h := h_19) (t := 128) (k' := .u64) (lit := true) e37) ?_
    refine oA 31 (.int .u32 t28) ?_
    obtain ⟨t32, e38, hF⟩ := obind_some hF
    refine WL.b (some 32) (.int .u32 t32) h_19 (rem_int (P := Try.prog) (h := h_19) (t := 128) (lit := true) e38) ?_
    refine oQ 33 177 128 .u32 hF fun t33 hF => ?_
    refine oLi 34 128 hF fun t34 hF => ?_
    refine oI 35 .u32 hF fun t35 hF => ?_
    refine oA 6 (.int .u32 t35) ?_
    refine oV [(1, strA t1), (5, (newP h)), (6, .int .u32 t35), (12, .int .i64 (lenS t1)), (13, .int .i64 t13)] (n24 (n23 (W.r ?_)))
    refine oI 36 .i64 hF fun t36 hF => ?_
    refine oA 13 (.int .i64 t36) ?_
    refine oV [(1, strA t1), (5, (newP h)), (6, .int .u32 t35), (12, .int .i64 (lenS t1)), (13, .int .i64 t36)] (n17 ?_)
    exact gW _ (ih17 _ _ _ hF)
   | false =>
    refine oU hF fun hF => ?_
    refine W.exit (by kernel_rfl) ?_
    refine e22 (e17 ?_)
    refine s12 (by kernel_rfl) ?_
    exact gW _ (J13 _ _ hF)
 exact gW _ (L17 _ _ _ _ hF)
noncomputable def sum_Of (call : CallF) (_ : Nat) (t0 : Bytes) (h : AHeap) : R :=
 callN (call 100 [.int .u32 0, strA t0] h) fun r4 h_3 =>
 obind (avInt .u32 r4) fun t4 =>
 some (.ret (.int .u32 t4), h_3)
set_option maxHeartbeats 4000000 in
set_option maxRecDepth 20000 in
theorem sum_Of_ok {call : CallF} (hc : SaysAll Try.prog call) {n : Nat} {t0 : Bytes} {h : AHeap} {rR : ARes} {hR : AHeap} (hF : sum_Of call n t0 h = some (rR, hR)) : Says Try.prog 96 [strA t0] h rR hR := by
 unfold sum_Of at hF
 refine sO Try.func96 fun w0 m0 => ?_
 refine wW [(0, strA t0)] ?_
 refine oG fun n1 => W.r ?_
 refine oA 2 (.int .u32 0) ?_
 refine oV [(0, strA t0)] (n1 ?_)
 refine oG fun n2 => W.r ?_
 refine oA 3 (strA t0) ?_
 refine oCi hc 4 hF fun t4 h_3 hF => ?_
 refine oA 2 (.int .u32 t4) ?_
 refine oV [(2, .int .u32 t4)] (n2 (oY ?_))
 exact lZ hF [.tmp 2] [.int .u32 t4] (rT res_nil)
noncomputable def frame_summed (call : CallF) (_ : Nat) (t0 : Bytes) (h : AHeap) : R :=
 callN (call 96 [strA t0] h) fun r5 h_3 =>
 obind (avInt .u32 r5) fun t5 =>
 callN (call 90 [.int .u32 t5] h_3) fun r6 h_6 =>
 obind (avStr r6) fun t6 =>
 obind (addS t0 t6) fun t7 =>
 some (.ret (strA t7), h_6)
set_option maxHeartbeats 4000000 in
set_option maxRecDepth 20000 in
theorem frame_summed_ok {call : CallF} (hc : SaysAll Try.prog call) {n : Nat} {t0 : Bytes} {h : AHeap} {rR : ARes} {hR : AHeap} (hF : frame_summed call n t0 h = some (rR, hR)) : Says Try.prog 89 [strA t0] h rR hR := by
 unfold frame_summed at hF
 refine sO Try.func89 fun w0 m0 => ?_
 refine wW [(0, strA t0)] ?_
 refine oG fun n1 => W.r ?_
 refine oA 2 (strA ([] : Bytes)) ?_
 refine oV [(0, strA t0)] (n1 ?_)
 refine oG fun n2 => W.r ?_
 refine oA 3 (strA t0) ?_
 refine oA 4 (strA t0) ?_
 refine oCi hc 5 hF fun t5 h_3 hF => ?_
 refine oCs hc 6 hF fun t6 h_6 hF => ?_
 obtain ⟨t7, e9, hF⟩ := obind_some hF
 refine WL.b (some 7) (strA t7) h_6 (add_str (P := Try.prog) (h := h_6) (t := 9) (lit := false) e9) ?_
 refine oA 2 (strA t7) ?_
 refine oV [(2, strA t7)] (n2 (oY ?_))
 exact lZ hF [.tmp 2] [strA t7] (rT res_nil)
noncomputable def frame_whole (call : CallF) (_ : Nat) (t0 : Bytes) (h : AHeap) : R :=
 lett (IntKind.i64.wrap ((lenS t0) - 4)) fun (t6 : Int) =>
 obind (sliceS t0 t6 (lenS t0)) fun t9 =>
 obind (sliceS t0 0 t6) fun t14 =>
 callN (call 78 [strA t9] h) fun r10 h_7 =>
 callN (call 98 [r10] h_7) fun r11 h_9 =>
 obind (avInt .u32 r11) fun t11 =>
 callN (call 96 [strA t14] h_9) fun r15 h_12 =>
 obind (avInt .u32 r15) fun t15 =>
 lett ((t11 : Int) == t15) fun (t16 : Bool) =>
 some (.ret (.bool t16), h_12)
set_option maxHeartbeats 4000000 in
set_option maxRecDepth 20000 in
theorem frame_whole_ok {call : CallF} (hc : SaysAll Try.prog call) {n : Nat} {t0 : Bytes} {h : AHeap} {rR : ARes} {hR : AHeap} (hF : frame_whole call n t0 h = some (rR, hR)) : Says Try.prog 99 [strA t0] h rR hR := by
 unfold frame_whole at hF
 refine sO Try.func99 fun w0 m0 => ?_
 refine wW [(0, strA t0)] ?_
 refine oG fun n1 => W.r ?_
 refine oA 2 (.bool false) ?_
 refine oV [(0, strA t0)] (n1 ?_)
 refine oG fun n2 => W.r ?_
 refine oA 4 (strA t0) ?_
 refine oA 5 (.int .i64 (lenS t0)) ?_
 refine oI 6 .i64 hF fun t6 hF => ?_
 refine oA 3 (.int .i64 t6) ?_
 refine oV [(0, strA t0), (3, .int .i64 t6)] (n2 ?_)
 refine oG fun n4 => ?_
 refine W.draw (by kernel_rfl) (hc.ok w0) (plan := [0, 1, 2, 5, 6, 7, 3, 4, 8, 9, 10]) (by kernel_rfl) (by kernel_rfl) (by kernel_rfl) ?_
 refine WD.a 0 (some 7) (strA t0) h ?_
 refine WD.a 0 (some 8) (.int .i64 t6) h ?_
 obtain ⟨t9, e5, hF⟩ := obind_some hF
 refine WD.b 0 (some 9) (strA t9) h (slice_str (P := Try.prog) (h := h) (t := 9) (A := (some (.int .i64 t6))) (B := none) (by kernel_rfl) (.inl ⟨_, rfl⟩) (.inr ⟨rfl, rfl⟩) e5) ?_
 refine WD.a 0 (some 12) (strA t0) h ?_
 refine WD.a 0 (some 13) (.int .i64 t6) h ?_
 obtain ⟨t14, e6, hF⟩ := obind_some hF
 refine WD.b 0 (some 14) (strA t14) h (slice_str (P := Try.prog) (h := h) (t := 9) (A := none) (B := (some (.int .i64 t6))) (by kernel_rfl) (.inr ⟨rfl, rfl⟩) (.inl ⟨_, rfl⟩) e6) ?_
 obtain ⟨r10, h_7, e8, hF⟩ := callN_some hF
 refine WD.call (d := (some 10)) (by kernel_rfl) (by kernel_rfl) (by kernel_rfl) e8 (k := 2) (by kernel_rfl) (fun _ => (by kernel_rfl)) (by decide) ?_
 replace hF := callN_some hF; obtain ⟨r11, h_9, e10, hF⟩ := hF
 replace hF := obind_some hF; obtain ⟨t11, c11, hF⟩ := hF
 have c11 := avInt_some c11
 subst c11
 refine WD.call (d := (some 11)) (by kernel_rfl) (by kernel_rfl) (by kernel_rfl) e10 (k := 2) (by kernel_rfl) (fun _ => (by kernel_rfl)) (by decide) ?_
 replace hF := callN_some hF; obtain ⟨r15, h_12, e13, hF⟩ := hF
 replace hF := obind_some hF; obtain ⟨t15, c14, hF⟩ := hF
 have c14 := avInt_some c14
 subst c14
 refine WD.call (d := (some 15)) (by kernel_rfl) (by kernel_rfl) (by kernel_rfl) e13 (k := 2) (by kernel_rfl) (fun _ => (by kernel_rfl)) (by decide) ?_
 obtain ⟨t16, e15, hF⟩ := lett_some hF
 refine WD.val (d := (some 16)) (v := .bool t16) (h' := h_12) (by kernel_rfl) (by kernel_rfl) (val_of AV.bool e15 (by kernel_rfl)) (k := 0) (by kernel_rfl) (fun e => absurd e (by decide)) (by decide) ?_
 refine WD.a 0 (some 2) (.bool t16) h_12 ?_
 refine WD.nil ?_
 refine gW [(2, .bool t16)] (n4 (oY ?_))
 exact lZ hF [.tmp 2] [.bool t16] (rT res_nil)
noncomputable def frame_Put (call : CallF) (_ : Nat) (t0 : Bytes) (h : AHeap) : R :=
 lett (decide ((lenS t0) > 4096)) fun (t6 : Bool) =>
 ifB t6
 (
  some (.ret (.tup [strA ([] : Bytes), .int .i64 3]), h))
 (
  lett (IntKind.u32.wrap (lenS t0)) fun (t9 : Int) =>
  callN (call 90 [.int .u32 t9] h) fun r10 h_8 =>
  obind (avStr r10) fun t10 =>
  callN (call 89 [strA t10] h_8) fun r11 h_11 =>
  obind (avStr r11) fun t11 =>
  callN (call 89 [strA t0] h_11) fun r13 h_14 =>
  obind (avStr r13) fun t13 =>
  obind (addS t11 t13) fun t14 =>
  some (.ret (.tup [strA t14, .int .i64 0]), h_14))
set_option maxHeartbeats 4000000 in
set_option maxRecDepth 20000 in
theorem frame_Put_ok {call : CallF} (hc : SaysAll Try.prog call) {n : Nat} {t0 : Bytes} {h : AHeap} {rR : ARes} {hR : AHeap} (hF : frame_Put call n t0 h = some (rR, hR)) : Says Try.prog 82 [strA t0] h rR hR := by
 unfold frame_Put at hF
 refine sO Try.func82 fun w0 m0 => ?_
 refine wW [(0, strA t0)] ?_
 refine oG fun n1 => W.r ?_
 refine oA 2 (strA ([] : Bytes)) ?_
 refine oA 3 (.int .i64 0) ?_
 refine oV [(0, strA t0)] (n1 ?_)
 refine oH fun n2 q2 => ?_
 refine oG fun n3 => W.r ?_
 refine oA 4 (strA t0) ?_
 refine oA 5 (.int .i64 (lenS t0)) ?_
 refine oB 6 hF fun t6 hF => ?_
 refine oV [(0, strA t0), (6, .bool t6)] (n3 ?_)
 cases t6 with
 | true =>
  refine oT hF fun hF => ?_
  refine oG fun n5 => W.r ?_
  refine oA 2 (strA ([] : Bytes)) ?_
  refine oA 3 (.int .i64 3) ?_
  refine oV [(2, strA ([] : Bytes)), (3, .int .i64 3)] (n5 (oY (q2 ?_)))
  exact lZ hF [.tmp 2, .tmp 3] [strA ([] : Bytes), .int .i64 3] (rT (rT res_nil))
 | false =>
  refine oU hF fun hF => ?_
  refine oZ (n2 ?_)
  refine oG fun n6 => W.r ?_
  refine oA 7 (strA t0) ?_
  refine oA 8 (.int .i64 (lenS t0)) ?_
  refine oI 9 .u32 hF fun t9 hF => ?_
  refine oCs hc 10 hF fun t10 h_8 hF => ?_
  refine oCs hc 11 hF fun t11 h_11 hF => ?_
  refine oA 12 (strA t0) ?_
  refine oCs hc 13 hF fun t13 h_14 hF => ?_
  obtain ⟨t14, e17, hF⟩ := obind_some hF
  refine WL.b (some 14) (strA t14) h_14 (add_str (P := Try.prog) (h := h_14) (t := 9) (lit := false) e17) ?_
  refine oA 2 (strA t14) ?_
  refine oA 3 (.int .i64 0) ?_
  refine oV [(2, strA t14), (3, .int .i64 0)] (n6 (oY ?_))
  exact lZ hF [.tmp 2, .tmp 3] [strA t14, .int .i64 0] (rT (rT res_nil))
noncomputable def frame_Take (call : CallF) (_ : Nat) (t0 : Bytes) (h : AHeap) : R :=
 lett (decide ((lenS t0) < 8)) fun (t9 : Bool) =>
 ifB t9
 (
  some (.ret (.tup [strA ([] : Bytes), .int .i64 0, .int .i64 30]), h))
 (
  callN (call 78 [strA t0] h) fun r11 h_7 =>
  callN (call 98 [r11] h_7) fun r12 h_9 =>
  obind (avInt .u32 r12) fun t12 =>
  lett (decide (t12 > 4096)) fun (t14 : Bool) =>
  lett (fun (t20 : Bool) (h_15 : AHeap) =>
   ifB t20
   (
    some (.ret (.tup [strA ([] : Bytes), .int .i64 0, .int .i64 7]), h_15))
   (
    lett (IntKind.i64.wrap t12) fun (t22 : Int) =>
    lett (IntKind.i64.wrap (8 + t22)) fun (t23 : Int) =>
    lett (IntKind.i64.wrap (t23 + 4)) fun (t24 : Int) =>
    lett (decide ((lenS t0) < t24)) fun (t28 : Bool) =>
    ifB t28
    (
     some (.ret (.tup [strA ([] : Bytes), .int .i64 0, .int .i64 30]), h_15))
    (
     obind (sliceS t0 8 t24) fun t31 =>
     callN (call 99 [strA t31] h_15) fun r32 h_30 =>
     obind (avBool r32) fun t32 =>
     lett (!t32) fun (t33 : Bool) =>
     ifB t33
     (
      some (.ret (.tup [strA ([] : Bytes), .int .i64 0, .int .i64 7]), h_30))
     (
      lett (IntKind.i64.wrap (t24 - 4)) fun (t36 : Int) =>
      obind (sliceS t0 8 t36) fun t37 =>
      some (.ret (.tup [strA t37, .int .i64 t24, .int .i64 0]), h_30))))) fun j20 =>
  ifB t14
  (
   j20 true h_9)
  (
   obind (sliceS t0 0 8) fun t17 =>
   callN (call 99 [strA t17] h_9) fun r18 h_39 =>
   obind (avBool r18) fun t18 =>
   lett (!t18) fun (t19 : Bool) =>
   j20 t19 h_39))
set_option maxHeartbeats 4000000 in
set_option maxRecDepth 20000 in
theorem frame_Take_ok {call : CallF} (hc : SaysAll Try.prog call) {n : Nat} {t0 : Bytes} {h : AHeap} {rR : ARes} {hR : AHeap} (hF : frame_Take call n t0 h = some (rR, hR)) : Says Try.prog 93 [strA t0] h rR hR := by
 unfold frame_Take at hF
 refine sO Try.func93 fun w0 m0 => ?_
 refine wW [(0, strA t0)] ?_
 refine oG fun n1 => W.r ?_
 refine oA 2 (strA ([] : Bytes)) ?_
 refine oA 3 (.int .i64 0) ?_
 refine oA 4 (.int .i64 0) ?_
 refine oV [(0, strA t0)] (n1 ?_)
 refine oH fun n2 q2 => ?_
 refine oG fun n3 => W.r ?_
 refine oA 7 (strA t0) ?_
 refine oA 8 (.int .i64 (lenS t0)) ?_
 refine oB 9 hF fun t9 hF => ?_
 refine oV [(0, strA t0), (9, .bool t9)] (n3 ?_)
 cases t9 with
 | true =>
  refine oT hF fun hF => ?_
  refine oG fun n5 => W.r ?_
  refine oA 2 (strA ([] : Bytes)) ?_
  refine oA 3 (.int .i64 0) ?_
  refine oA 4 (.int .i64 30) ?_
  refine oV [(2, strA ([] : Bytes)), (3, .int .i64 0), (4, .int .i64 30)] (n5 (oY (q2 ?_)))
  exact lZ hF [.tmp 2, .tmp 3, .tmp 4] [strA ([] : Bytes), .int .i64 0, .int .i64 30] (rT (rT (rT res_nil)))
 | false =>
  refine oU hF fun hF => ?_
  refine oZ (n2 ?_)
  refine oG fun n6 => W.r ?_
  refine oA 10 (strA t0) ?_
  refine oC hc (some 11) hF fun r11 h_7 hF => ?_
  refine oCi hc 12 hF fun t12 h_9 hF => ?_
  refine oA 5 (.int .u32 t12) ?_
  refine oV [(0, strA t0), (5, .int .u32 t12)] (n6 ?_)
  refine oH fun n12 q12 => ?_
  refine W.s (fun K13 n13 e13 q13 p13 => ?_)
  refine W.r ?_
  refine oA 13 (.int .u32 t12) ?_
  refine oB 14 hF fun t14 hF => ?_
  refine oA 15 (.bool t14) ?_
  obtain ⟨j20, e16, hF⟩ := lett_some hF
  have J17 : ∀ (t20 : Bool) (h_15 : AHeap), j20 t20 h_15 = some (rR, hR) → WL Try.prog w0 m0 (Func.ntmps Try.f93) (Code.ops (Code.p1 (Code.p1 (Code.p2 (Code.p2 (Code.p2 (codeOf Try.f93))))))) 8 K13 [(0, strA t0), (5, .int .u32 t12), (20, .bool t20)] [] h_15 := by
   intro t20 h_15 hF
   rw [e16] at hF
   refine oV [(0, strA t0), (5, .int .u32 t12), (20, .bool t20)] (n13 ?_)
   cases t20 with
   | true =>
    refine oT hF fun hF => ?_
    refine oG fun n18 => W.r ?_
    refine oA 2 (strA ([] : Bytes)) ?_
    refine oA 3 (.int .i64 0) ?_
    refine oA 4 (.int .i64 7) ?_
    refine oV [(2, strA ([] : Bytes)), (3, .int .i64 0), (4, .int .i64 7)] (n18 (oY (q12 ?_)))
    exact lZ hF [.tmp 2, .tmp 3, .tmp 4] [strA ([] : Bytes), .int .i64 0, .int .i64 7] (rT (rT (rT res_nil)))
   | false =>
    refine oU hF fun hF => ?_
    refine oZ (n12 ?_)
    refine oG fun n19 => W.r ?_
    refine oA 21 (.int .u32 t12) ?_
    refine oI 22 .i64 hF fun t22 hF => ?_
    refine oI 23 .i64 hF fun t23 hF => ?_
    refine oI 24 .i64 hF fun t24 hF => ?_
    refine oA 6 (.int .i64 t24) ?_
    refine oV [(0, strA t0), (6, .int .i64 t24)] (n19 ?_)
    refine oH fun n23 q23 => ?_
    refine oG fun n24 => W.r ?_
    refine oA 25 (strA t0) ?_
    refine oA 26 (.int .i64 (lenS t0)) ?_
    refine oA 27 (.int .i64 t24) ?_
    refine oB 28 hF fun t28 hF => ?_
    refine oV [(0, strA t0), (6, .int .i64 t24), (28, .bool t28)] (n24 ?_)
    cases t28 with
    | true =>
     refine oT hF fun hF => ?_
     refine oG fun n26 => W.r ?_
     refine oA 2 (strA ([] : Bytes)) ?_
     refine oA 3 (.int .i64 0) ?_
     refine oA 4 (.int .i64 30) ?_
     refine oV [(2, strA ([] : Bytes)), (3, .int .i64 0), (4, .int .i64 30)] (n26 (oY (q23 ?_)))
     exact lZ hF [.tmp 2, .tmp 3, .tmp 4] [strA ([] : Bytes), .int .i64 0, .int .i64 30] (rT (rT (rT res_nil)))
    | false =>
     refine oU hF fun hF => ?_
     refine oZ (n23 ?_)
     refine oH fun n27 q27 => ?_
     refine oG fun n28 => W.r ?_
     refine oA 29 (strA t0) ?_
     refine oA 30 (.int .i64 t24) ?_
     obtain ⟨t31, e29, hF⟩ := obind_some hF
     refine WL.b (some 31) (strA t31) h_15 (slice_str (P := Try.prog) (h := h_15) (t := 9) (A := (some (.int .i64 8))) (B := (some (.int .i64 t24))) (by kernel_rfl) (.inl ⟨_, rfl⟩) (.inl ⟨_, rfl⟩) e29) ?_
     refine oCb hc 32 hF fun t32 h_30 hF => ?_
     refine oB 33 hF fun t33 hF => ?_
     refine oV [(0, strA t0), (6, .int .i64 t24), (33, .bool t33)] (n28 ?_)
     cases t33 with
     | true =>
      refine oT hF fun hF => ?_
      refine oG fun n34 => W.r ?_
      refine oA 2 (strA ([] : Bytes)) ?_
      refine oA 3 (.int .i64 0) ?_
      refine oA 4 (.int .i64 7) ?_
      refine oV [(2, strA ([] : Bytes)), (3, .int .i64 0), (4, .int .i64 7)] (n34 (oY (q27 ?_)))
      exact lZ hF [.tmp 2, .tmp 3, .tmp 4] [strA ([] : Bytes), .int .i64 0, .int .i64 7] (rT (rT (rT res_nil)))
     | false =>
      refine oU hF fun hF => ?_
      refine oZ (n27 ?_)
      refine oG fun n35 => W.r ?_
      refine oA 34 (strA t0) ?_
      refine oA 35 (.int .i64 t24) ?_
      refine oI 36 .i64 hF fun t36 hF => ?_
      obtain ⟨t37, e37, hF⟩ := obind_some hF
      refine WL.b (some 37) (strA t37) h_30 (slice_str (P := Try.prog) (h := h_30) (t := 9) (A := (some (.int .i64 8))) (B := (some (.int .i64 t36))) (by kernel_rfl) (.inl ⟨_, rfl⟩) (.inl ⟨_, rfl⟩) e37) ?_
      refine oA 38 (.int .i64 t24) ?_
      refine oA 2 (strA t37) ?_
      refine oA 3 (.int .i64 t24) ?_
      refine oA 4 (.int .i64 0) ?_
      refine oV [(2, strA t37), (3, .int .i64 t24), (4, .int .i64 0)] (n35 (oY ?_))
      exact lZ hF [.tmp 2, .tmp 3, .tmp 4] [strA t37, .int .i64 t24, .int .i64 0] (rT (rT (rT res_nil)))
  cases t14 with
  | true =>
   replace hF := ifB_t hF
   refine WL.o (some 16) ?_
   refine WL.o (some 17) ?_
   refine WL.o (some 18) ?_
   refine WL.o (some 19) ?_
   refine oA 20 (.bool true) ?_
   exact lW _ (J17 _ _ hF)
  | false =>
   replace hF := ifB_f hF
   refine oA 16 (strA t0) ?_
   obtain ⟨t17, e38, hF⟩ := obind_some hF
   refine WL.b (some 17) (strA t17) h_9 (slice_str (P := Try.prog) (h := h_9) (t := 9) (A := none) (B := (some (.int .i64 8))) (by kernel_rfl) (.inr ⟨rfl, rfl⟩) (.inl ⟨_, rfl⟩) e38) ?_
   refine oCb hc 18 hF fun t18 h_39 hF => ?_
   refine oB 19 hF fun t19 hF => ?_
   refine oA 20 (.bool t19) ?_
   exact lW _ (J17 _ _ hF)
noncomputable def frame_All (_ : CallF) (_ : Nat) (t0 : Bytes) (h : AHeap) : R :=
 lett (newH h 9 [strA t0]) fun h_2 =>
 some (.ret (AV.fn 92 [] [(newP h)]), h_2)
set_option maxHeartbeats 4000000 in
set_option maxRecDepth 20000 in
theorem frame_All_ok {call : CallF} (_ : SaysAll Try.prog call) {n : Nat} {t0 : Bytes} {h : AHeap} {rR : ARes} {hR : AHeap} (hF : frame_All call n t0 h = some (rR, hR)) : Says Try.prog 87 [strA t0] h rR hR := by
 unfold frame_All at hF
 refine sO Try.func87 fun w0 m0 => ?_
 refine wW [(0, strA t0)] ?_
 refine oG fun n1 => W.r ?_
 refine oN 1 hF fun h_2 hF => ?_
 refine oA 2 AV.nfn ?_
 refine oV [(1, (newP h))] (n1 ?_)
 refine oG fun n4 => W.r ?_
 refine oA 3 (AV.fn 92 [] [(newP h)]) ?_
 refine oA 2 (AV.fn 92 [] [(newP h)]) ?_
 refine oV [(2, (AV.fn 92 [] [(newP h)]))] (n4 (oY ?_))
 exact lZ hF [.tmp 2] [(AV.fn 92 [] [(newP h)])] (rT res_nil)
noncomputable def wire_U32 (call : CallF) (_ : Nat) (t0 : Int) (h : AHeap) : R :=
 lett (IntKind.u64.wrap t0) fun (t4 : Int) =>
 callN (call 83 [.int .u64 t4, .int .i64 4] h) fun r5 h_4 =>
 obind (avStr r5) fun t5 =>
 some (.ret (strA t5), h_4)
set_option maxHeartbeats 4000000 in
set_option maxRecDepth 20000 in
theorem wire_U32_ok {call : CallF} (hc : SaysAll Try.prog call) {n : Nat} {t0 : Int} {h : AHeap} {rR : ARes} {hR : AHeap} (hF : wire_U32 call n t0 h = some (rR, hR)) : Says Try.prog 90 [.int .u32 t0] h rR hR := by
 unfold wire_U32 at hF
 refine sO Try.func90 fun w0 m0 => ?_
 refine wW [(0, .int .u32 t0)] ?_
 refine oG fun n1 => W.r ?_
 refine oA 2 (strA ([] : Bytes)) ?_
 refine oV [(0, .int .u32 t0)] (n1 ?_)
 refine oG fun n2 => W.r ?_
 refine oA 3 (.int .u32 t0) ?_
 refine oI 4 .u64 hF fun t4 hF => ?_
 refine oCs hc 5 hF fun t5 h_4 hF => ?_
 refine oA 2 (strA t5) ?_
 refine oV [(2, strA t5)] (n2 (oY ?_))
 exact lZ hF [.tmp 2] [strA t5] (rT res_nil)
noncomputable def wire_U64 (call : CallF) (_ : Nat) (t0 : Int) (h : AHeap) : R :=
 callN (call 83 [.int .u64 t0, .int .i64 8] h) fun r4 h_3 =>
 obind (avStr r4) fun t4 =>
 some (.ret (strA t4), h_3)
set_option maxHeartbeats 4000000 in
set_option maxRecDepth 20000 in
theorem wire_U64_ok {call : CallF} (hc : SaysAll Try.prog call) {n : Nat} {t0 : Int} {h : AHeap} {rR : ARes} {hR : AHeap} (hF : wire_U64 call n t0 h = some (rR, hR)) : Says Try.prog 66 [.int .u64 t0] h rR hR := by
 unfold wire_U64 at hF
 refine sO Try.func66 fun w0 m0 => ?_
 refine wW [(0, .int .u64 t0)] ?_
 refine oG fun n1 => W.r ?_
 refine oA 2 (strA ([] : Bytes)) ?_
 refine oV [(0, .int .u64 t0)] (n1 ?_)
 refine oG fun n2 => W.r ?_
 refine oA 3 (.int .u64 t0) ?_
 refine oCs hc 4 hF fun t4 h_3 hF => ?_
 refine oA 2 (strA t4) ?_
 refine oV [(2, strA t4)] (n2 (oY ?_))
 exact lZ hF [.tmp 2] [strA t4] (rT res_nil)
noncomputable def wire_New (_ : CallF) (_ : Nat) (t0 : Bytes) (h : AHeap) : R :=
 outK (opBox h 166 (some (.agg ([strA t0, .int .i64 0, .int .i64 0, .int .i64 0] : List AV)))) fun v5 h_3 =>
 some (.ret (v5), h_3)
set_option maxHeartbeats 4000000 in
set_option maxRecDepth 20000 in
theorem wire_New_ok {call : CallF} (_ : SaysAll Try.prog call) {n : Nat} {t0 : Bytes} {h : AHeap} {rR : ARes} {hR : AHeap} (hF : wire_New call n t0 h = some (rR, hR)) : Says Try.prog 78 [strA t0] h rR hR := by
 unfold wire_New at hF
 refine sO Try.func78 fun w0 m0 => ?_
 refine wW [(0, strA t0)] ?_
 refine oG fun n1 => W.r ?_
 refine oA 2 AV.nilp ?_
 refine oV [(0, strA t0)] (n1 ?_)
 refine oG fun n2 => W.r ?_
 refine oA 3 (strA t0) ?_
 refine oA 4 (.agg ([strA t0, .int .i64 0, .int .i64 0, .int .i64 0] : List AV)) ?_
 refine oK 5 hF fun v5 h_3 hF => ?_
 refine oA 2 v5 ?_
 refine oV [(2, v5)] (n2 (oY ?_))
 exact lZ hF [.tmp 2] [v5] (rT res_nil)
noncomputable def wire_number_L0b (v8 : AV) (k9 : AHeap → R) (self : Int → Int → AHeap → R) (t0_16 : Int) (t6 : Int) (h_17 : AHeap) : R :=
 lett (decide (t6 ≥ 0)) fun (t12 : Bool) =>
 ifB t12
 (
  lett (IntKind.u8.wrap t0_16) fun (t18 : Int) =>
  obind (idxP 1 v8 t6) fun t19 =>
  obind (stRow h_17 1 [.int .u8 t18] t19) fun h_26 =>
  obind (shrI .u64 t0_16 8) fun t21 =>
  lett (IntKind.i64.wrap (t6 - 1)) fun (t14 : Int) =>
  self t21 t14 h_26)
 (
  k9 h_17)
noncomputable def wire_number_L0 (v8 : AV) (k9 : AHeap → R) : Nat → Int → Int → AHeap → R := iterR (fun _ _ _ => none) (wire_number_L0b v8 k9)
theorem wire_number_L0_s (v8 : AV) (k9 : AHeap → R) (m : Nat) : wire_number_L0 v8 k9 (m + 1) = wire_number_L0b v8 k9 (wire_number_L0 v8 k9 m) := rfl
noncomputable def wire_number (_ : CallF) (n : Nat) (t0 : Int) (t1 : Int) (h : AHeap) : R :=
 outK (opMakeSlice Try.prog h 46 (some (.int .i64 t1)) (some (.int .i64 t1))) fun v8 h_3 =>
 lett (IntKind.i64.wrap (t1 - 1)) fun (t10 : Int) =>
 lett (fun  (h_10 : AHeap) =>
  outK (opConv Try.prog h_10 46 9 (some v8)) fun v23 h_12 =>
  obind (avStr v23) fun t23 =>
  some (.ret (strA t23), h_12)) fun k9 =>
 wire_number_L0 v8 k9 n t0 t10 h_3
set_option maxHeartbeats 4000000 in
set_option maxRecDepth 20000 in
theorem wire_number_ok {call : CallF} (_ : SaysAll Try.prog call) {n : Nat} {t0 : Int} {t1 : Int} {h : AHeap} {rR : ARes} {hR : AHeap} (hF : wire_number call n t0 t1 h = some (rR, hR)) : Says Try.prog 83 [.int .u64 t0, .int .i64 t1] h rR hR := by
 unfold wire_number at hF
 refine sO Try.func83 fun w0 m0 => ?_
 refine wW [(0, .int .u64 t0), (1, .int .i64 t1)] ?_
 refine oG fun n1 => W.r ?_
 refine oA 4 (strA ([] : Bytes)) ?_
 refine oV [(0, .int .u64 t0), (1, .int .i64 t1)] (n1 ?_)
 refine oG fun n2 => W.r ?_
 refine oA 7 (.int .i64 t1) ?_
 refine oK 8 hF fun v8 h_3 hF => ?_
 refine oA 5 v8 ?_
 refine oV [(0, .int .u64 t0), (1, .int .i64 t1), (5, v8)] (n2 ?_)
 refine W.s (fun K5 n5 e5 q5 p5 => ?_)
 refine oG fun n6 => W.r ?_
 refine oA 9 (.int .i64 t1) ?_
 refine oI 10 .i64 hF fun t10 hF => ?_
 refine oA 6 (.int .i64 t10) ?_
 refine oV [(0, .int .u64 t0), (5, v8), (6, .int .i64 t10)] (n6 ?_)
 obtain ⟨k9, e9, hF⟩ := lett_some hF
 have J9 : ∀  (h_10 : AHeap), k9 h_10 = some (rR, hR) → Go w0 m0 (Func.ntmps Try.f83) (K5 .normal) [(5, v8)] [] h_10 := by
  intro  h_10 hF
  rw [e9] at hF
  refine n5 ?_
  refine oG fun n11 => W.r ?_
  refine oA 22 v8 ?_
  replace hF := outK_some hF; obtain ⟨v23, h_12, e13, hF⟩ := hF
  replace hF := obind_some hF; obtain ⟨t23, c14, hF⟩ := hF
  have c14 := avStr_some c14
  subst c14
  refine WL.b (some 23) (strA t23) h_12 e13 ?_
  refine oA 4 (strA t23) ?_
  refine oV [(4, strA t23)] (n11 (oY ?_))
  exact lZ hF [.tmp 4] [strA t23] (rT res_nil)
 refine W.blockK (by kernel_rfl) (fun K8 n8 s8 o8 q8 p8 => ?_)
 refine W.loopK (by kernel_rfl) (fun I15 K15 b15 n15 e15 q15 p15 => ?_)
 have L15 : ∀ (m : Nat) (t0_16 : Int) (t6 : Int) (h_17 : AHeap), wire_number_L0 v8 k9 m t0_16 t6 h_17 = some (rR, hR) → Go w0 m0 (Func.ntmps Try.f83) I15 [(0, .int .u64 t0_16), (5, v8), (6, .int .i64 t6)] [] h_17 := by
  intro m
  induction m with
  | zero => intro t0_16 t6 h_17 hF; cases hF
  | succ m ih15 =>
   intro t0_16 t6 h_17 hF
   rw [wire_number_L0_s] at hF; unfold wire_number_L0b at hF
   refine b15 ?_
   refine W.s (fun K18 n18 e18 q18 p18 => ?_)
   refine oG fun n19 => W.r ?_
   refine oA 11 (.int .i64 t6) ?_
   refine oB 12 hF fun t12 hF => ?_
   refine oV [(0, .int .u64 t0_16), (5, v8), (6, .int .i64 t6), (12, .bool t12)] (n19 ?_)
   cases t12 with
   | true =>
    refine oT hF fun hF => ?_
    refine oZ (n18 ?_)
    refine oG fun n21 => ?_
    refine W.blockK (by kernel_rfl) (fun K22 n22 s22 o22 q22 p22 => ?_)
    refine oG fun n23 => W.r ?_
    refine oA 15 v8 ?_
    refine oA 16 (.int .i64 t6) ?_
    refine oA 17 (.int .u64 t0_16) ?_
    refine oI 18 .u8 hF fun t18 hF => ?_
    refine oP 19 46 5 .i64 hF fun t19 hF => ?_
    refine oW 5 (.int .u8 t18) hF fun h_26 hF => ?_
    refine oV [(0, .int .u64 t0_16), (5, v8), (6, .int .i64 t6)] (n23 (W.r ?_))
    refine oA 20 (.int .u64 t0_16) ?_
    obtain ⟨t21, e28, hF⟩ := obind_some hF
    refine WL.b (some 21) (.int .u64 t21) h_26 (shr_int (P := Try.prog) (h := h_26) (t := 131) (k' := .u64) (lit := true) e28) ?_
    refine oA 0 (.int .u64 t21) ?_
    refine oV [(0, .int .u64 t21), (5, v8), (6, .int .i64 t6)] (n22 (n21 (W.r ?_)))
    refine oA 13 (.int .i64 t6) ?_
    refine oI 14 .i64 hF fun t14 hF => ?_
    refine oA 6 (.int .i64 t14) ?_
    refine oV [(0, .int .u64 t21), (5, v8), (6, .int .i64 t14)] (n15 ?_)
    exact gW _ (ih15 _ _ _ hF)
   | false =>
    refine oU hF fun hF => ?_
    refine W.exit (by kernel_rfl) ?_
    refine e18 (e15 ?_)
    refine s8 (by kernel_rfl) ?_
    exact gW _ (J9 _ hF)
 exact gW _ (L15 _ _ _ _ hF)
noncomputable def wire_Reader_U32 (call : CallF) (_ : Nat) (t0 : AV) (h : AHeap) : R :=
 callN (call 88 [t0, .int .i64 4] h) fun r4 h_3 =>
 obind (avInt .u64 r4) fun t4 =>
 lett (IntKind.u32.wrap t4) fun (t5 : Int) =>
 some (.ret (.int .u32 t5), h_3)
set_option maxHeartbeats 4000000 in
set_option maxRecDepth 20000 in
theorem wire_Reader_U32_ok {call : CallF} (hc : SaysAll Try.prog call) {n : Nat} {t0 : AV} {h : AHeap} {rR : ARes} {hR : AHeap} (hF : wire_Reader_U32 call n t0 h = some (rR, hR)) : Says Try.prog 98 [t0] h rR hR := by
 unfold wire_Reader_U32 at hF
 refine sO Try.func98 fun w0 m0 => ?_
 refine wW [(0, t0)] ?_
 refine oG fun n1 => W.r ?_
 refine oA 2 (.int .u32 0) ?_
 refine oV [(0, t0)] (n1 ?_)
 refine oG fun n2 => W.r ?_
 refine oA 3 t0 ?_
 refine oCi hc 4 hF fun t4 h_3 hF => ?_
 refine oI 5 .u32 hF fun t5 hF => ?_
 refine oA 2 (.int .u32 t5) ?_
 refine oV [(2, .int .u32 t5)] (n2 (oY ?_))
 exact lZ hF [.tmp 2] [.int .u32 t5] (rT res_nil)
noncomputable def wire_Reader_U64 (call : CallF) (_ : Nat) (t0 : AV) (h : AHeap) : R :=
 callN (call 88 [t0, .int .i64 8] h) fun r4 h_3 =>
 obind (avInt .u64 r4) fun t4 =>
 some (.ret (.int .u64 t4), h_3)
set_option maxHeartbeats 4000000 in
set_option maxRecDepth 20000 in
theorem wire_Reader_U64_ok {call : CallF} (hc : SaysAll Try.prog call) {n : Nat} {t0 : AV} {h : AHeap} {rR : ARes} {hR : AHeap} (hF : wire_Reader_U64 call n t0 h = some (rR, hR)) : Says Try.prog 79 [t0] h rR hR := by
 unfold wire_Reader_U64 at hF
 refine sO Try.func79 fun w0 m0 => ?_
 refine wW [(0, t0)] ?_
 refine oG fun n1 => W.r ?_
 refine oA 2 (.int .u64 0) ?_
 refine oV [(0, t0)] (n1 ?_)
 refine oG fun n2 => W.r ?_
 refine oA 3 t0 ?_
 refine oCi hc 4 hF fun t4 h_3 hF => ?_
 refine oA 2 (.int .u64 t4) ?_
 refine oV [(2, .int .u64 t4)] (n2 (oY ?_))
 exact lZ hF [.tmp 2] [.int .u64 t4] (rT res_nil)
noncomputable def wire_Reader_number_L0b (t0 : AV) (t1 : Int) (k33 : Int → AHeap → R) (self : Int → Int → AHeap → R) (t5_37 : Int) (t28 : Int) (h_38 : AHeap) : R :=
 lett (decide (t28 < t1)) fun (t29 : Bool) =>
 ifB t29
 (
  obind (shlI .u64 t5_37 8) fun t31 =>
  obind (nilC t0) fun t33 =>
  obind (fldP 0 t33) fun t34 =>
  obind (ldCell h_38 t34) fun v35 =>
  obind (avStr v35) fun t35 =>
  obind (nilC t0) fun t37 =>
  obind (fldP 1 t37) fun t38 =>
  obind (ldCell h_38 t38) fun v39 =>
  obind (avInt .i64 v39) fun t39 =>
  obind (idxS t35 t39) fun t40 =>
  lett (IntKind.u64.wrap t40) fun (t41 : Int) =>
  lett (orI .u64 t31 t41) fun (t42 : Int) =>
  obind (nilC t0) fun t44 =>
  obind (fldP 1 t44) fun t45 =>
  obind (ldCell h_38 t45) fun v46 =>
  obind (avInt .i64 v46) fun t46 =>
  lett (IntKind.i64.wrap (t46 + 1)) fun (t47 : Int) =>
  obind (nilC t0) fun t48 =>
  obind (fldP 1 t48) fun t49 =>
  obind (stRow h_38 1 [.int .i64 t47] t49) fun h_64 =>
  lett (IntKind.i64.wrap (t28 + 1)) fun (t50 : Int) =>
  self t42 t50 h_64)
 (
  k33 t5_37 h_38)
noncomputable def wire_Reader_number_L0 (t0 : AV) (t1 : Int) (k33 : Int → AHeap → R) : Nat → Int → Int → AHeap → R := iterR (fun _ _ _ => none) (wire_Reader_number_L0b t0 t1 k33)
theorem wire_Reader_number_L0_s (t0 : AV) (t1 : Int) (k33 : Int → AHeap → R) (m : Nat) : wire_Reader_number_L0 t0 t1 k33 (m + 1) = wire_Reader_number_L0b t0 t1 k33 (wire_Reader_number_L0 t0 t1 k33 m) := rfl
noncomputable def wire_Reader_number (call : CallF) (n : Nat) (t0 : AV) (t1 : Int) (h : AHeap) : R :=
 callN (call 94 [t0] h) fun r7 h_4 =>
 obind (avBool r7) fun t7 =>
 lett (!t7) fun (t8 : Bool) =>
 ifB t8
 (
  some (.ret (.int .u64 0), h_4))
 (
  obind (nilC t0) fun t10 =>
  obind (fldP 0 t10) fun t11 =>
  obind (ldCell h_4 t11) fun v12 =>
  obind (avStr v12) fun t12 =>
  obind (nilC t0) fun t15 =>
  obind (fldP 1 t15) fun t16 =>
  obind (ldCell h_4 t16) fun v17 =>
  obind (avInt .i64 v17) fun t17 =>
  lett (IntKind.i64.wrap ((lenS t12) - t17)) fun (t18 : Int) =>
  lett (decide (t18 < t1)) fun (t20 : Bool) =>
  ifB t20
  (
   obind (nilC t0) fun t23 =>
   obind (fldP 1 t23) fun t24 =>
   obind (ldCell h_4 t24) fun v25 =>
   obind (avInt .i64 v25) fun t25 =>
   callN (call 95 [t0, .int .i64 7, .int .i64 t25] h_4) fun _ h_26 =>
   some (.ret (.int .u64 0), h_26))
  (
   lett (fun (t5 : Int) (h_34 : AHeap) =>
    some (.ret (.int .u64 t5), h_34)) fun k33 =>
   wire_Reader_number_L0 t0 t1 k33 n 0 0 h_4))
set_option maxHeartbeats 4000000 in
set_option maxRecDepth 20000 in
theorem wire_Reader_number_ok {call : CallF} (hc : SaysAll Try.prog call) {n : Nat} {t0 : AV} {t1 : Int} {h : AHeap} {rR : ARes} {hR : AHeap} (hF : wire_Reader_number call n t0 t1 h = some (rR, hR)) : Says Try.prog 88 [t0, .int .i64 t1] h rR hR := by
 unfold wire_Reader_number at hF
 refine sO Try.func88 fun w0 m0 => ?_
 refine wW [(0, t0), (1, .int .i64 t1)] ?_
 refine oG fun n1 => W.r ?_
 refine oA 4 (.int .u64 0) ?_
 refine oV [(0, t0), (1, .int .i64 t1)] (n1 ?_)
 refine oH fun n2 q2 => ?_
 refine oG fun n3 => W.r ?_
 refine oA 6 t0 ?_
 refine oCb hc 7 hF fun t7 h_4 hF => ?_
 refine oB 8 hF fun t8 hF => ?_
 refine oV [(0, t0), (1, .int .i64 t1), (8, .bool t8)] (n3 ?_)
 cases t8 with
 | true =>
  refine oT hF fun hF => ?_
  refine oG fun n8 => W.r ?_
  refine oA 4 (.int .u64 0) ?_
  refine oV [(4, .int .u64 0)] (n8 (oY (q2 ?_)))
  exact lZ hF [.tmp 4] [.int .u64 0] (rT res_nil)
 | false =>
  refine oU hF fun hF => ?_
  refine oZ (n2 ?_)
  refine oH fun n9 q9 => ?_
  refine oG fun n10 => ?_
  refine W.draw (by kernel_rfl) (hc.ok w0) (plan := [0, 1, 2, 3, 4, 5, 6, 7, 8, 9, 10, 11]) (by kernel_rfl) (by kernel_rfl) (by kernel_rfl) ?_
  refine WD.a 0 (some 9) t0 h_4 ?_
  obtain ⟨t10, e11, hF⟩ := obind_some hF
  refine WD.b 0 (some 10) t10 h_4 (nil_chk (h := h_4) e11) ?_
  obtain ⟨t11, e12, hF⟩ := obind_some hF
  refine WD.b 0 (some 11) t11 h_4 (field_ptr (P := Try.prog) (h := h_4) (s := 166) (f := 0) (by kernel_rfl) e12) ?_
  replace hF := obind_some hF; obtain ⟨v12, e13, hF⟩ := hF
  replace hF := obind_some hF; obtain ⟨t12, c14, hF⟩ := hF
  have c14 := avStr_some c14
  subst c14
  refine WD.b 1 (some 12) (strA t12) h_4 (load_cell (P := Try.prog) (h := h_4) (t := 9) (by kernel_rfl) e13) ?_
  refine WD.a 0 (some 13) (.int .i64 (lenS t12)) h_4 ?_
  refine WD.a 0 (some 14) t0 h_4 ?_
  obtain ⟨t15, e15, hF⟩ := obind_some hF
  refine WD.b 0 (some 15) t15 h_4 (nil_chk (h := h_4) e15) ?_
  obtain ⟨t16, e16, hF⟩ := obind_some hF
  refine WD.b 0 (some 16) t16 h_4 (field_ptr (P := Try.prog) (h := h_4) (s := 166) (f := 1) (by kernel_rfl) e16) ?_
  replace hF := obind_some hF; obtain ⟨v17, e17, hF⟩ := hF
  replace hF := obind_some hF; obtain ⟨t17, c18, hF⟩ := hF
  have c18 := avInt_some c18
  subst c18
  refine WD.b 1 (some 17) (.int .i64 t17) h_4 (load_cell (P := Try.prog) (h := h_4) (t := 3) (by kernel_rfl) e17) ?_
  obtain ⟨t18, e19, hF⟩ := lett_some hF
  refine WD.val (d := (some 18)) (v := .int .i64 t18) (h' := h_4) (by kernel_rfl) (by kernel_rfl) (val_of (AV.int .i64) e19 (by kernel_rfl)) (k := 0) (by kernel_rfl) (fun e => absurd e (by decide)) (by decide) ?_
  refine WD.a 0 (some 19) (.int .i64 t1) h_4 ?_
  obtain ⟨t20, e20, hF⟩ := lett_some hF
  refine WD.val (d := (some 20)) (v := .bool t20) (h' := h_4) (by kernel_rfl) (by kernel_rfl) (val_of AV.bool e20 (by kernel_rfl)) (k := 0) (by kernel_rfl) (fun e => absurd e (by decide)) (by decide) ?_
  refine WD.nil ?_
  refine gW [(0, t0), (1, .int .i64 t1), (20, .bool t20)] (n10 ?_)
  cases t20 with
  | true =>
   refine oT hF fun hF => ?_
   refine oG fun n21 => W.r ?_
   refine oA 21 t0 ?_
   refine oA 22 t0 ?_
   refine oC0 23 hF fun t23 hF => ?_
   refine oF 24 166 1 hF fun t24 hF => ?_
   refine oLi 25 3 hF fun t25 hF => ?_
   refine oC hc (some 26) hF fun r26 h_26 hF => ?_
   refine oV [] (n21 ?_)
   refine oG fun n28 => W.r ?_
   refine oA 4 (.int .u64 0) ?_
   refine oV [(4, .int .u64 0)] (n28 (oY (q9 ?_)))
   exact lZ hF [.tmp 4] [.int .u64 0] (rT res_nil)
  | false =>
   refine oU hF fun hF => ?_
   refine oZ (n9 ?_)
   refine oG fun n29 => W.r ?_
   refine oA 5 (.int .u64 0) ?_
   refine oV [(0, t0), (1, .int .i64 t1), (5, .int .u64 0)] (n29 ?_)
   refine W.s (fun K30 n30 e30 q30 p30 => ?_)
   refine oG fun n31 => W.r ?_
   refine oA 27 (.int .i64 t1) ?_
   refine oA 28 (.int .i64 0) ?_
   refine oV [(0, t0), (5, .int .u64 0), (27, .int .i64 t1), (28, .int .i64 0)] (n31 ?_)
   obtain ⟨k33, e33, hF⟩ := lett_some hF
   have J33 : ∀ (t5 : Int) (h_34 : AHeap), k33 t5 h_34 = some (rR, hR) → Go w0 m0 (Func.ntmps Try.f88) (K30 .normal) [(5, .int .u64 t5)] [] h_34 := by
    intro t5 h_34 hF
    rw [e33] at hF
    refine n30 ?_
    refine oG fun n35 => W.r ?_
    refine oA 51 (.int .u64 t5) ?_
    refine oA 4 (.int .u64 t5) ?_
    refine oV [(4, .int .u64 t5)] (n35 (oY ?_))
    exact lZ hF [.tmp 4] [.int .u64 t5] (rT res_nil)
   refine W.blockK (by kernel_rfl) (fun K32 n32 s32 o32 q32 p32 => ?_)
   refine W.loopK (by kernel_rfl) (fun I36 K36 b36 n36 e36 q36 p36 => ?_)
   have L36 : ∀ (m : Nat) (t5_37 : Int) (t28 : Int) (h_38 : AHeap), wire_Reader_number_L0 t0 t1 k33 m t5_37 t28 h_38 = some (rR, hR) → Go w0 m0 (Func.ntmps Try.f88) I36 [(0, t0), (5, .int .u64 t5_37), (27, .int .i64 t1), (28, .int .i64 t28)] [] h_38 := by
    intro m
    induction m with
    | zero => intro t5_37 t28 h_38 hF; cases hF
    | succ m ih36 =>
     intro t5_37 t28 h_38 hF
     rw [wire_Reader_number_L0_s] at hF; unfold wire_Reader_number_L0b at hF
     refine b36 ?_
     refine oG fun n39 => W.r ?_
     refine oB 29 hF fun t29 hF => ?_
     refine oV [(0, t0), (5, .int .u64 t5_37), (27, .int .i64 t1), (28, .int .i64 t28), (29, .bool t29)] (n39 ?_)
     refine W.s (fun K41 n41 e41 q41 p41 => ?_)
     cases t29 with
     | true =>
      refine oT hF fun hF => ?_
      refine oZ (n41 ?_)
      refine oG fun n42 => ?_
      refine W.blockK (by kernel_rfl) (fun K43 n43 s43 o43 q43 p43 => ?_)
      refine oG fun n44 => ?_
      refine W.draw (by kernel_rfl) (hc.ok w0) (plan := [0, 1, 2, 3, 4, 5, 6, 7, 8, 9, 10, 11, 12, 13]) (by kernel_rfl) (by kernel_rfl) (by kernel_rfl) ?_
      refine WD.a 0 (some 30) (.int .u64 t5_37) h_38 ?_
      obtain ⟨t31, e45, hF⟩ := obind_some hF
      refine WD.b 0 (some 31) (.int .u64 t31) h_38 (shl_int (P := Try.prog) (h := h_38) (t := 131) (k' := .u64) (lit := true) e45) ?_
      refine WD.a 0 (some 32) t0 h_38 ?_
      obtain ⟨t33, e46, hF⟩ := obind_some hF
      refine WD.b 0 (some 33) t33 h_38 (nil_chk (h := h_38) e46) ?_
      obtain ⟨t34, e47, hF⟩ := obind_some hF
      refine WD.b 0 (some 34) t34 h_38 (field_ptr (P := Try.prog) (h := h_38) (s := 166) (f := 0) (by kernel_rfl) e47) ?_
      replace hF := obind_some hF; obtain ⟨v35, e48, hF⟩ := hF
      replace hF := obind_some hF; obtain ⟨t35, c49, hF⟩ := hF
      have c49 := avStr_some c49
      subst c49
      refine WD.b 1 (some 35) (strA t35) h_38 (load_cell (P := Try.prog) (h := h_38) (t := 9) (by kernel_rfl) e48) ?_
      refine WD.a 0 (some 36) t0 h_38 ?_
      obtain ⟨t37, e50, hF⟩ := obind_some hF
      refine WD.b 0 (some 37) t37 h_38 (nil_chk (h := h_38) e50) ?_
      obtain ⟨t38, e51, hF⟩ := obind_some hF
      refine WD.b 0 (some 38) t38 h_38 (field_ptr (P := Try.prog) (h := h_38) (s := 166) (f := 1) (by kernel_rfl) e51) ?_
      replace hF := obind_some hF; obtain ⟨v39, e52, hF⟩ := hF
      replace hF := obind_some hF; obtain ⟨t39, c53, hF⟩ := hF
      have c53 := avInt_some c53
      subst c53
      refine WD.b 1 (some 39) (.int .i64 t39) h_38 (load_cell (P := Try.prog) (h := h_38) (t := 3) (by kernel_rfl) e52) ?_
      obtain ⟨t40, e54, hF⟩ := obind_some hF
      refine WD.b 0 (some 40) (.int .u8 t40) h_38 (index_str (P := Try.prog) (h := h_38) (t := 9) (k := .i64) (by kernel_rfl) e54) ?_
      obtain ⟨t41, e55, hF⟩ := lett_some hF
      refine WD.val (d := (some 41)) (v := .int .u64 t41) (h' := h_38) (by kernel_rfl) (by kernel_rfl) (val_of (AV.int .u64) e55 (by kernel_rfl)) (k := 0) (by kernel_rfl) (fun e => absurd e (by decide)) (by decide) ?_
      obtain ⟨t42, e56, hF⟩ := lett_some hF
      refine WD.val (d := (some 42)) (v := .int .u64 t42) (h' := h_38) (by kernel_rfl) (by kernel_rfl) (val_of (AV.int .u64) e56 (by kernel_rfl)) (k := 0) (by kernel_rfl) (fun e => absurd e (by decide)) (by decide) ?_
      refine WD.val (d := (some 5)) (v := .int .u64 t42) (h' := h_38) (by kernel_rfl) (by kernel_rfl) (by kernel_rfl) (k := 2) (by kernel_rfl) (fun _ => (by kernel_rfl)) (by decide) ?_
      refine WD.nil ?_
      refine gW [(0, t0), (5, .int .u64 t42), (27, .int .i64 t1), (28, .int .i64 t28)] (n44 (W.r ?_))
      refine oA 43 t0 ?_
      refine oC0 44 hF fun t44 hF => ?_
      refine oF 45 166 1 hF fun t45 hF => ?_
      refine oLi 46 3 hF fun t46 hF => ?_
      refine oI 47 .i64 hF fun t47 hF => ?_
      refine oC0 48 hF fun t48 hF => ?_
      refine oF 49 166 1 hF fun t49 hF => ?_
      refine oW 3 (.int .i64 t47) hF fun h_64 hF => ?_
      refine oV [(0, t0), (5, .int .u64 t42), (27, .int .i64 t1), (28, .int .i64 t28)] (n43 (n42 (W.r ?_)))
      refine oI 50 .i64 hF fun t50 hF => ?_
      refine oA 28 (.int .i64 t50) ?_
      refine oV [(0, t0), (5, .int .u64 t42), (27, .int .i64 t1), (28, .int .i64 t50)] (n36 ?_)
      exact gW _ (ih36 _ _ _ hF)
     | false =>
      refine oU hF fun hF => ?_
      refine W.exit (by kernel_rfl) ?_
      refine e41 (e36 ?_)
      refine s32 (by kernel_rfl) ?_
      exact gW _ (J33 _ _ hF)
   exact gW _ (L36 _ _ _ _ hF)
noncomputable def wire_Reader_whole (_ : CallF) (_ : Nat) (t0 : AV) (h : AHeap) : R :=
 outK (opBin Try.prog h .neq 150 true (some t0) (some AV.nilp)) fun v4 h_3 =>
 obind (avBool v4) fun t4 =>
 lett (fun (t12 : Bool) (h_6 : AHeap) =>
  some (.ret (.bool t12), h_6)) fun j12 =>
 ifB t4
 (
  obind (nilC t0) fun t7 =>
  obind (fldP 2 t7) fun t8 =>
  obind (fldP 0 t8) fun t9 =>
  obind (ldCell h_3 t9) fun v10 =>
  obind (avInt .i64 v10) fun t10 =>
  lett ((t10 : Int) == 0) fun (t11 : Bool) =>
  j12 t11 h_3)
 (
  j12 false h_3)
set_option maxHeartbeats 4000000 in
set_option maxRecDepth 20000 in
theorem wire_Reader_whole_ok {call : CallF} (_ : SaysAll Try.prog call) {n : Nat} {t0 : AV} {h : AHeap} {rR : ARes} {hR : AHeap} (hF : wire_Reader_whole call n t0 h = some (rR, hR)) : Says Try.prog 94 [t0] h rR hR := by
 unfold wire_Reader_whole at hF
 refine sO Try.func94 fun w0 m0 => ?_
 refine wW [(0, t0)] ?_
 refine oG fun n1 => W.r ?_
 refine oA 2 (.bool false) ?_
 refine oV [(0, t0)] (n1 ?_)
 refine W.s (fun K2 n2 e2 q2 p2 => ?_)
 refine W.r ?_
 refine oA 3 t0 ?_
 replace hF := outK_some hF; obtain ⟨v4, h_3, e4, hF⟩ := hF
 replace hF := obind_some hF; obtain ⟨t4, c5, hF⟩ := hF
 have c5 := avBool_some c5
 subst c5
 refine WL.b (some 4) (.bool t4) h_3 e4 ?_
 refine oA 5 (.bool t4) ?_
 obtain ⟨j12, e7, hF⟩ := lett_some hF
 have J8 : ∀ (t12 : Bool) (h_6 : AHeap), j12 t12 h_6 = some (rR, hR) → WL Try.prog w0 m0 (Func.ntmps Try.f94) (Code.ops (Code.p1 (Code.p2 (codeOf Try.f94)))) 10 K2 [(12, .bool t12)] [] h_6 := by
  intro t12 h_6 hF
  rw [e7] at hF
  refine oA 2 (.bool t12) ?_
  refine oV [(2, .bool t12)] (n2 (oY ?_))
  exact lZ hF [.tmp 2] [.bool t12] (rT res_nil)
 cases t4 with
 | true =>
  replace hF := ifB_t hF
  refine oA 6 t0 ?_
  refine oC0 7 hF fun t7 hF => ?_
  refine oF 8 166 2 hF fun t8 hF => ?_
  refine oF 9 164 0 hF fun t9 hF => ?_
  refine oLi 10 24 hF fun t10 hF => ?_
  refine oB 11 hF fun t11 hF => ?_
  refine oA 12 (.bool t11) ?_
  exact lW _ (J8 _ _ hF)
 | false =>
  replace hF := ifB_f hF
  refine WL.o (some 6) ?_
  refine WL.o (some 7) ?_
  refine WL.o (some 8) ?_
  refine WL.o (some 9) ?_
  refine WL.o (some 10) ?_
  refine WL.o (some 11) ?_
  refine oA 12 (.bool false) ?_
  exact lW _ (J8 _ _ hF)
noncomputable def wire_Reader_fail (_ : CallF) (_ : Nat) (t0 : AV) (t1 : Int) (t2 : Int) (h : AHeap) : R :=
 obind (nilC t0) fun t10 =>
 obind (fldP 2 t10) fun t11 =>
 obind (stRow h 2 ([.int .i64 t1, .int .i64 t2] : List AV) t11) fun h_3 =>
 some (.ret (.tup []), h_3)
set_option maxHeartbeats 4000000 in
set_option maxRecDepth 20000 in
theorem wire_Reader_fail_ok {call : CallF} (_ : SaysAll Try.prog call) {n : Nat} {t0 : AV} {t1 : Int} {t2 : Int} {h : AHeap} {rR : ARes} {hR : AHeap} (hF : wire_Reader_fail call n t0 t1 t2 h = some (rR, hR)) : Says Try.prog 95 [t0, .int .i64 t1, .int .i64 t2] h rR hR := by
 unfold wire_Reader_fail at hF
 refine sO Try.func95 fun w0 m0 => ?_
 refine wW [(0, t0), (1, .int .i64 t1), (2, .int .i64 t2)] ?_
 refine W.r ?_
 refine oA 6 t0 ?_
 refine oA 7 (.int .i64 t1) ?_
 refine oA 8 (.int .i64 t2) ?_
 refine oA 9 (.agg ([.int .i64 t1, .int .i64 t2] : List AV)) ?_
 refine oC0 10 hF fun t10 hF => ?_
 refine oF 11 166 2 hF fun t11 hF => ?_
 refine oW 164 (.agg ([.int .i64 t1, .int .i64 t2] : List AV)) hF fun h_3 hF => ?_
 refine oV [] ?_
 exact lY hF [] [] res_nil
noncomputable def strings_HasPrefix (call : CallF) (_ : Nat) (t0 : Bytes) (t1 : Bytes) (h : AHeap) : R :=
 callN (call 56 [strA t0, strA t1] h) fun r7 h_3 =>
 obind (avBool r7) fun t7 =>
 some (.ret (.bool t7), h_3)
set_option maxHeartbeats 4000000 in
set_option maxRecDepth 20000 in
theorem strings_HasPrefix_ok {call : CallF} (hc : SaysAll Try.prog call) {n : Nat} {t0 : Bytes} {t1 : Bytes} {h : AHeap} {rR : ARes} {hR : AHeap} (hF : strings_HasPrefix call n t0 t1 h = some (rR, hR)) : Says Try.prog 32 [strA t0, strA t1] h rR hR := by
 unfold strings_HasPrefix at hF
 refine sO Try.func32 fun w0 m0 => ?_
 refine wW [(0, strA t0), (1, strA t1)] ?_
 refine oG fun n1 => W.r ?_
 refine oA 4 (.bool false) ?_
 refine oV [(0, strA t0), (1, strA t1)] (n1 ?_)
 refine oG fun n2 => W.r ?_
 refine oA 5 (strA t0) ?_
 refine oA 6 (strA t1) ?_
 refine oCb hc 7 hF fun t7 h_3 hF => ?_
 refine oA 4 (.bool t7) ?_
 refine oV [(4, .bool t7)] (n2 (oY ?_))
 exact lZ hF [.tmp 4] [.bool t7] (rT res_nil)
noncomputable def internal_stringslite_HasPrefix (_ : CallF) (_ : Nat) (t0 : Bytes) (t1 : Bytes) (h : AHeap) : R :=
 lett (decide ((lenS t0) ≥ (lenS t1))) fun (t9 : Bool) =>
 lett (fun (t17 : Bool) (h_4 : AHeap) =>
  some (.ret (.bool t17), h_4)) fun j17 =>
 ifB t9
 (
  obind (sliceS t0 0 (lenS t1)) fun t14 =>
  lett (eqS t14 t1) fun (t16 : Bool) =>
  j17 t16 h)
 (
  j17 false h)
set_option maxHeartbeats 4000000 in
set_option maxRecDepth 20000 in
theorem internal_stringslite_HasPrefix_ok {call : CallF} (_ : SaysAll Try.prog call) {n : Nat} {t0 : Bytes} {t1 : Bytes} {h : AHeap} {rR : ARes} {hR : AHeap} (hF : internal_stringslite_HasPrefix call n t0 t1 h = some (rR, hR)) : Says Try.prog 56 [strA t0, strA t1] h rR hR := by
 unfold internal_stringslite_HasPrefix at hF
 refine sO Try.func56 fun w0 m0 => ?_
 refine wW [(0, strA t0), (1, strA t1)] ?_
 refine oG fun n1 => W.r ?_
 refine oA 4 (.bool false) ?_
 refine oV [(0, strA t0), (1, strA t1)] (n1 ?_)
 refine W.s (fun K2 n2 e2 q2 p2 => ?_)
 refine W.r ?_
 refine oA 5 (strA t0) ?_
 refine oA 6 (.int .i64 (lenS t0)) ?_
 refine oA 7 (strA t1) ?_
 refine oA 8 (.int .i64 (lenS t1)) ?_
 refine oB 9 hF fun t9 hF => ?_
 refine oA 10 (.bool t9) ?_
 obtain ⟨j17, e5, hF⟩ := lett_some hF
 have J6 : ∀ (t17 : Bool) (h_4 : AHeap), j17 t17 h_4 = some (rR, hR) → WL Try.prog w0 m0 (Func.ntmps Try.f56) (Code.ops (Code.p1 (Code.p2 (codeOf Try.f56)))) 13 K2 [(17, .bool t17)] [] h_4 := by
  intro t17 h_4 hF
  rw [e5] at hF
  refine oA 4 (.bool t17) ?_
  refine oV [(4, .bool t17)] (n2 (oY ?_))
  exact lZ hF [.tmp 4] [.bool t17] (rT res_nil)
 cases t9 with
 | true =>
  replace hF := ifB_t hF
  refine oA 11 (strA t0) ?_
  refine oA 12 (strA t1) ?_
  refine oA 13 (.int .i64 (lenS t1)) ?_
  obtain ⟨t14, e7, hF⟩ := obind_some hF
  refine WL.b (some 14) (strA t14) h (slice_str (P := Try.prog) (h := h) (t := 9) (A := none) (B := (some (.int .i64 (lenS t1)))) (by kernel_rfl) (.inr ⟨rfl, rfl⟩) (.inl ⟨_, rfl⟩) e7) ?_
  refine oA 15 (strA t1) ?_
  refine oB 16 hF fun t16 hF => ?_
  refine oA 17 (.bool t16) ?_
  exact lW _ (J6 _ _ hF)
 | false =>
  replace hF := ifB_f hF
  refine WL.o (some 11) ?_
  refine WL.o (some 12) ?_
  refine WL.o (some 13) ?_
  refine WL.o (some 14) ?_
  refine WL.o (some 15) ?_
  refine WL.o (some 16) ?_
  refine oA 17 (.bool false) ?_
  exact lW _ (J6 _ _ hF)
noncomputable def strings_Builder_Grow (call : CallF) (_ : Nat) (t0 : AV) (t1 : Int) (h : AHeap) : R :=
 callN (call 57 [t0] h) fun _ h_2 =>
 lett (decide (t1 < 0)) fun (t7 : Bool) =>
 lett (fun  (h_8 : AHeap) =>
  obind (nilC t0) fun t10 =>
  obind (fldP 1 t10) fun t11 =>
  obind (ldCell h_8 t11) fun v12 =>
  obind (nilC t0) fun t15 =>
  obind (fldP 1 t15) fun t16 =>
  obind (ldCell h_8 t16) fun v17 =>
  obind (lenL v17) fun t18 =>
  outK (builtinA Try.prog .cap #[46] [v12] h_8) fun v13 h_17 =>
  obind (avInt .i64 v13) fun t13 =>
  chk (reLoad Try.prog h_17 46 t16 v17 && (true && true)) <|
  lett (IntKind.i64.wrap (t13 - t18)) fun (t19 : Int) =>
  lett (decide (t19 < t1)) fun (t21 : Bool) =>
  lett (fun  (h_24 : AHeap) =>
   some (.ret (.tup []), h_24)) fun k23 =>
  ifB t21
  (
   callN (call 58 [t0, .int .i64 t1] h_17) fun _ h_25 =>
   k23 h_25)
  (
   k23 h_17)) fun k7 =>
 ifB t7
 (
  panK (AV.ifc 9 (strA ([115, 116, 114, 105, 110, 103, 115, 46, 66, 117, 105, 108, 100, 101, 114, 46, 71, 114, 111, 119, 58, 32, 110, 101, 103, 97, 116, 105, 118, 101, 32, 99, 111, 117, 110, 116] : Bytes))) h_2)
 (
  k7 h_2)
set_option maxHeartbeats 4000000 in
set_option maxRecDepth 20000 in
theorem strings_Builder_Grow_ok {call : CallF} (hc : SaysAll Try.prog call) {n : Nat} {t0 : AV} {t1 : Int} {h : AHeap} {rR : ARes} {hR : AHeap} (hF : strings_Builder_Grow call n t0 t1 h = some (rR, hR)) : Says Try.prog 33 [t0, .int .i64 t1] h rR hR := by
 unfold strings_Builder_Grow at hF
 refine sO Try.func33 fun w0 m0 => ?_
 refine wW [(0, t0), (1, .int .i64 t1)] ?_
 refine oG fun n1 => W.r ?_
 refine oA 4 t0 ?_
 refine oC hc (some 5) hF fun r5 h_2 hF => ?_
 refine oV [(0, t0), (1, .int .i64 t1)] (n1 ?_)
 refine W.s (fun K4 n4 e4 q4 p4 => ?_)
 refine oG fun n5 => W.r ?_
 refine oA 6 (.int .i64 t1) ?_
 refine oB 7 hF fun t7 hF => ?_
 refine oV [(0, t0), (1, .int .i64 t1), (7, .bool t7)] (n5 ?_)
 obtain ⟨k7, e7, hF⟩ := lett_some hF
 have J7 : ∀  (h_8 : AHeap), k7 h_8 = some (rR, hR) → Go w0 m0 (Func.ntmps Try.f33) (K4 .normal) [(0, t0), (1, .int .i64 t1)] [] h_8 := by
  intro  h_8 hF
  rw [e7] at hF
  refine n4 ?_
  refine oG fun n9 => ?_
  refine W.draw (by kernel_rfl) (hc.ok w0) (plan := [0, 1, 2, 3, 5, 6, 7, 8, 9, 11, 4, 10, 12]) (by kernel_rfl) (by kernel_rfl) (by kernel_rfl) ?_
  refine WD.a 0 (some 9) t0 h_8 ?_
  obtain ⟨t10, e10, hF⟩ := obind_some hF
  refine WD.b 0 (some 10) t10 h_8 (nil_chk (h := h_8) e10) ?_
  obtain ⟨t11, e11, hF⟩ := obind_some hF
  refine WD.b 0 (some 11) t11 h_8 (field_ptr (P := Try.prog) (h := h_8) (s := 89) (f := 1) (by kernel_rfl) e11) ?_
  obtain ⟨v12, e12, hF⟩ := obind_some hF
  refine WD.b 1 (some 12) v12 h_8 (load_cell (P := Try.prog) (h := h_8) (t := 46) (by kernel_rfl) e12) ?_
  refine WD.a 0 (some 14) t0 h_8 ?_
  obtain ⟨t15, e13, hF⟩ := obind_some hF
  refine WD.b 0 (some 15) t15 h_8 (nil_chk (h := h_8) e13) ?_
  obtain ⟨t16, e14, hF⟩ := obind_some hF
  refine WD.b 0 (some 16) t16 h_8 (field_ptr (P := Try.prog) (h := h_8) (s := 89) (f := 1) (by kernel_rfl) e14) ?_
  obtain ⟨v17, e15, hF⟩ := obind_some hF
  refine WD.b 1 (some 17) v17 h_8 (load_cell (P := Try.prog) (h := h_8) (t := 46) (by kernel_rfl) e15) ?_
  obtain ⟨t18, e16, hF⟩ := obind_some hF
  refine WD.b 0 (some 18) (.int .i64 t18) h_8 (len_row (P := Try.prog) (h := h_8) (t := 46) (e' := 5) (by kernel_rfl) e16) ?_
  refine WD.a 0 (some 20) (.int .i64 t1) h_8 ?_
  replace hF := outK_some hF; obtain ⟨v13, h_17, e18, hF⟩ := hF
  replace hF := obind_some hF; obtain ⟨t13, c19, hF⟩ := hF
  have c19 := avInt_some c19
  subst c19
  obtain ⟨k20, hF⟩ := chk_some hF
  refine WD.val (d := (some 13)) (v := .int .i64 t13) (h' := h_17) (by kernel_rfl) (by kernel_rfl) (Eq.trans (by kernel_rfl) e18) (k := 2) (by kernel_rfl) (fun _ => (Eq.trans (by kernel_rfl) k20)) (by decide) ?_
  obtain ⟨t19, e21, hF⟩ := lett_some hF
  refine WD.val (d := (some 19)) (v := .int .i64 t19) (h' := h_17) (by kernel_rfl) (by kernel_rfl) (val_of (AV.int .i64) e21 (by kernel_rfl)) (k := 0) (by kernel_rfl) (fun e => absurd e (by decide)) (by decide) ?_
  obtain ⟨t21, e22, hF⟩ := lett_some hF
  refine WD.val (d := (some 21)) (v := .bool t21) (h' := h_17) (by kernel_rfl) (by kernel_rfl) (val_of AV.bool e22 (by kernel_rfl)) (k := 0) (by kernel_rfl) (fun e => absurd e (by decide)) (by decide) ?_
  refine WD.nil ?_
  refine gW [(0, t0), (1, .int .i64 t1), (21, .bool t21)] (n9 ?_)
  obtain ⟨k23, e23, hF⟩ := lett_some hF
  have J23 : ∀  (h_24 : AHeap), k23 h_24 = some (rR, hR) → Go w0 m0 (Func.ntmps Try.f33) (Fin Try.prog Try.f33 w0 m0 rR hR .normal) [] [] h_24 := by
   intro  h_24 hF
   rw [e23] at hF
   exact lY hF [] [] res_nil
  cases t21 with
  | true =>
   refine oT hF fun hF => ?_
   refine W.r ?_
   refine oA 22 t0 ?_
   refine oA 23 (.int .i64 t1) ?_
   refine oC hc (some 24) hF fun r24 h_25 hF => ?_
   refine oV [] ?_
   exact gW _ (J23 _ hF)
  | false =>
   refine oU hF fun hF => ?_
   refine oZ ?_
   exact gW _ (J23 _ hF)
 cases t7 with
 | true =>
  refine oT hF fun hF => ?_
  refine W.r ?_
  refine oA 8 (AV.ifc 9 (strA ([115, 116, 114, 105, 110, 103, 115, 46, 66, 117, 105, 108, 100, 101, 114, 46, 71, 114, 111, 119, 58, 32, 110, 101, 103, 97, 116, 105, 118, 101, 32, 99, 111, 117, 110, 116] : Bytes))) ?_
  replace hF := panK_some hF; obtain ⟨a28t, a28v, e27, e272⟩ := hF
  cases e272
  exact WL.pan (d := none) (by kernel_rfl) (by kernel_rfl) (Eq.trans (by kernel_rfl) (congrArg (fun x => opPanic _ (some x)) e27)) (p4 Pan.fin)
 | false =>
  refine oU hF fun hF => ?_
  refine oZ ?_
  exact gW _ (J7 _ hF)
noncomputable def strings_Builder_WriteString (call : CallF) (_ : Nat) (t0 : AV) (t1 : Bytes) (h : AHeap) : R :=
 callN (call 57 [t0] h) fun _ h_3 =>
 obind (nilC t0) fun t10 =>
 obind (fldP 1 t10) fun t11 =>
 obind (ldCell h_3 t11) fun v12 =>
 outK (opAppend Try.prog h_3 46 9 v12 (strA t1)) fun v14 h_9 =>
 obind (nilC t0) fun t15 =>
 obind (fldP 1 t15) fun t16 =>
 obind (stRow h_9 1 (AV.cells v14) t16) fun h_13 =>
 some (.ret (.tup [.int .i64 (lenS t1), AV.nifc]), h_13)
set_option maxHeartbeats 4000000 in
set_option maxRecDepth 20000 in
theorem strings_Builder_WriteString_ok {call : CallF} (hc : SaysAll Try.prog call) {n : Nat} {t0 : AV} {t1 : Bytes} {h : AHeap} {rR : ARes} {hR : AHeap} (hF : strings_Builder_WriteString call n t0 t1 h = some (rR, hR)) : Says Try.prog 34 [t0, strA t1] h rR hR := by
 unfold strings_Builder_WriteString at hF
 refine sO Try.func34 fun w0 m0 => ?_
 refine wW [(0, t0), (1, strA t1)] ?_
 refine oG fun n1 => W.r ?_
 refine oA 4 (.int .i64 0) ?_
 refine oA 5 AV.nifc ?_
 refine oV [(0, t0), (1, strA t1)] (n1 ?_)
 refine oG fun n2 => W.r ?_
 refine oA 6 t0 ?_
 refine oC hc (some 7) hF fun r7 h_3 hF => ?_
 refine oV [(0, t0), (1, strA t1)] (n2 ?_)
 refine oG fun n5 => W.r ?_
 refine oA 8 t0 ?_
 refine oA 9 t0 ?_
 refine oC0 10 hF fun t10 hF => ?_
 refine oF 11 89 1 hF fun t11 hF => ?_
 refine oL 12 46 hF fun v12 hF => ?_
 refine oA 13 (strA t1) ?_
 refine oK 14 hF fun v14 h_9 hF => ?_
 refine oC0 15 hF fun t15 hF => ?_
 refine oF 16 89 1 hF fun t16 hF => ?_
 refine oW 46 v14 hF fun h_13 hF => ?_
 refine oV [(1, strA t1)] (n5 ?_)
 refine oG fun n15 => W.r ?_
 refine oA 17 (strA t1) ?_
 refine oA 18 (.int .i64 (lenS t1)) ?_
 refine oA 4 (.int .i64 (lenS t1)) ?_
 refine oA 5 AV.nifc ?_
 refine oV [(4, .int .i64 (lenS t1)), (5, AV.nifc)] (n15 (oY ?_))
 exact lZ hF [.tmp 4, .tmp 5] [.int .i64 (lenS t1), AV.nifc] (rT (rT res_nil))
noncomputable def strings_Builder_String (_ : CallF) (_ : Nat) (t0 : AV) (h : AHeap) : R :=
 obind (nilC t0) fun t4 =>
 obind (fldP 1 t4) fun t5 =>
 obind (ldCell h t5) fun v6 =>
 obind (nilC t0) fun t9 =>
 obind (fldP 1 t9) fun t10 =>
 obind (ldCell h t10) fun v11 =>
 obind (lenL v11) fun t12 =>
 outK (opSliceData h v6) fun v7 h_10 =>
 chk (reLoad Try.prog h_10 46 t10 v11 && (true && true)) <|
 outK (opUnsafeStr Try.prog h_10 134 v7 (.int .i64 t12)) fun v13 h_13 =>
 obind (avStr v13) fun t13 =>
 some (.ret (strA t13), h_13)
set_option maxHeartbeats 4000000 in
set_option maxRecDepth 20000 in
theorem strings_Builder_String_ok {call : CallF} (hc : SaysAll Try.prog call) {n : Nat} {t0 : AV} {h : AHeap} {rR : ARes} {hR : AHeap} (hF : strings_Builder_String call n t0 h = some (rR, hR)) : Says Try.prog 36 [t0] h rR hR := by
 unfold strings_Builder_String at hF
 refine sO Try.func36 fun w0 m0 => ?_
 refine wW [(0, t0)] ?_
 refine oG fun n1 => W.r ?_
 refine oA 2 (strA ([] : Bytes)) ?_
 refine oV [(0, t0)] (n1 ?_)
 refine oG fun n2 => ?_
 refine W.draw (by kernel_rfl) (hc.ok w0) (plan := [0, 1, 2, 3, 5, 6, 7, 8, 9, 4, 10, 11]) (by kernel_rfl) (by kernel_rfl) (by kernel_rfl) ?_
 refine WD.a 0 (some 3) t0 h ?_
 obtain ⟨t4, e3, hF⟩ := obind_some hF
 refine WD.b 0 (some 4) t4 h (nil_chk (h := h) e3) ?_
 obtain ⟨t5, e4, hF⟩ := obind_some hF
 refine WD.b 0 (some 5) t5 h (field_ptr (P := Try.prog) (h := h) (s := 89) (f := 1) (by kernel_rfl) e4) ?_
 obtain ⟨v6, e5, hF⟩ := obind_some hF
 refine WD.b 1 (some 6) v6 h (load_cell (P := Try.prog) (h := h) (t := 46) (by kernel_rfl) e5) ?_
 refine WD.a 0 (some 8) t0 h ?_
 obtain ⟨t9, e6, hF⟩ := obind_some hF
 refine WD.b 0 (some 9) t9 h (nil_chk (h := h) e6) ?_
 obtain ⟨t10, e7, hF⟩ := obind_some hF
 refine WD.b 0 (some 10) t10 h (field_ptr (P := Try.prog) (h := h) (s := 89) (f := 1) (by kernel_rfl) e7) ?_
 obtain ⟨v11, e8, hF⟩ := obind_some hF
 refine WD.b 1 (some 11) v11 h (load_cell (P := Try.prog) (h := h) (t := 46) (by kernel_rfl) e8) ?_
 obtain ⟨t12, e9, hF⟩ := obind_some hF
 refine WD.b 0 (some 12) (.int .i64 t12) h (len_row (P := Try.prog) (h := h) (t := 46) (e' := 5) (by kernel_rfl) e9) ?_
 obtain ⟨v7, h_10, e11, hF⟩ := outK_some hF
 obtain ⟨k12, hF⟩ := chk_some hF
 refine WD.val (d := (some 7)) (v := v7) (h' := h_10) (by kernel_rfl) (by kernel_rfl) (Eq.trans (by kernel_rfl) e11) (k := 2) (by kernel_rfl) (fun _ => (Eq.trans (by kernel_rfl) k12)) (by decide) ?_
 replace hF := outK_some hF; obtain ⟨v13, h_13, e14, hF⟩ := hF
 replace hF := obind_some hF; obtain ⟨t13, c15, hF⟩ := hF
 have c15 := avStr_some c15
 subst c15
 refine WD.val (d := (some 13)) (v := strA t13) (h' := h_13) (by kernel_rfl) (by kernel_rfl) (Eq.trans (by kernel_rfl) e14) (k := 2) (by kernel_rfl) (fun _ => (by kernel_rfl)) (by decide) ?_
 refine WD.a 0 (some 2) (strA t13) h_13 ?_
 refine WD.nil ?_
 refine gW [(2, strA t13)] (n2 (oY ?_))
 exact lZ hF [.tmp 2] [strA t13] (rT res_nil)
noncomputable def strings_Builder_copyCheck (_ : CallF) (_ : Nat) (t0 : AV) (h : AHeap) : R :=
 obind (nilC t0) fun t3 =>
 obind (fldP 0 t3) fun t4 =>
 obind (ldCell h t4) fun v5 =>
 outK (opBin Try.prog h .eql 87 true (some v5) (some AV.nilp)) fun v6 h_5 =>
 obind (avBool v6) fun t6 =>
 lett (fun  (h_9 : AHeap) =>
  some (.ret (.tup []), h_9)) fun k8 =>
 ifB t6
 (
  outK (opConv Try.prog h_5 87 147 (some t0)) fun v9 h_10 =>
  outK (externA Try.prog h_10 75 [v9]) fun v10 h_14 =>
  outK (opConv Try.prog h_14 147 87 (some v10)) fun v11 h_16 =>
  obind (nilC t0) fun t12 =>
  obind (fldP 0 t12) fun t13 =>
  obind (stRow h_16 1 (AV.cells v11) t13) fun h_20 =>
  k8 h_20)
 (
  obind (nilC t0) fun t15 =>
  obind (fldP 0 t15) fun t16 =>
  obind (ldCell h_5 t16) fun v17 =>
  outK (opBinV Try.prog h_5 .neq 87 false (some v17) (some t0)) fun v19 h_26 =>
  obind (avBool v19) fun t19 =>
  ifB t19
  (
   none)
  (
   k8 h_26))
set_option maxHeartbeats 4000000 in
set_option maxRecDepth 20000 in
theorem strings_Builder_copyCheck_ok {call : CallF} (_ : SaysAll Try.prog call) {n : Nat} {t0 : AV} {h : AHeap} {rR : ARes} {hR : AHeap} (hF : strings_Builder_copyCheck call n t0 h = some (rR, hR)) : Says Try.prog 57 [t0] h rR hR := by
 unfold strings_Builder_copyCheck at hF
 refine sO Try.func57 fun w0 m0 => ?_
 refine wW [(0, t0)] ?_
 refine oG fun n1 => W.r ?_
 refine oA 2 t0 ?_
 refine oC0 3 hF fun t3 hF => ?_
 refine oF 4 89 0 hF fun t4 hF => ?_
 refine oL 5 87 hF fun v5 hF => ?_
 replace hF := outK_some hF; obtain ⟨v6, h_5, e6, hF⟩ := hF
 replace hF := obind_some hF; obtain ⟨t6, c7, hF⟩ := hF
 have c7 := avBool_some c7
 subst c7
 refine WL.b (some 6) (.bool t6) h_5 e6 ?_
 refine oV [(0, t0), (6, .bool t6)] (n1 ?_)
 obtain ⟨k8, e8, hF⟩ := lett_some hF
 have J8 : ∀  (h_9 : AHeap), k8 h_9 = some (rR, hR) → Go w0 m0 (Func.ntmps Try.f57) (Fin Try.prog Try.f57 w0 m0 rR hR .normal) [] [] h_9 := by
  intro  h_9 hF
  rw [e8] at hF
  exact lY hF [] [] res_nil
 cases t6 with
 | true =>
  refine oT hF fun hF => ?_
  refine W.r ?_
  refine oA 7 t0 ?_
  refine oA 8 t0 ?_
  refine oK 9 hF fun v9 h_10 hF => ?_
  refine oK 10 hF fun v10 h_14 hF => ?_
  refine oK 11 hF fun v11 h_16 hF => ?_
  refine oC0 12 hF fun t12 hF => ?_
  refine oF 13 89 0 hF fun t13 hF => ?_
  refine oW 87 v11 hF fun h_20 hF => ?_
  refine oV [] ?_
  exact gW _ (J8 _ hF)
 | false =>
  refine oU hF fun hF => ?_
  refine oG fun n22 => W.r ?_
  refine oA 14 t0 ?_
  refine oC0 15 hF fun t15 hF => ?_
  refine oF 16 89 0 hF fun t16 hF => ?_
  refine oL 17 87 hF fun v17 hF => ?_
  refine oA 18 t0 ?_
  replace hF := outK_some hF; obtain ⟨v19, h_26, e27, hF⟩ := hF
  replace hF := obind_some hF; obtain ⟨t19, c28, hF⟩ := hF
  have c28 := avBool_some c28
  subst c28
  refine WL.b (some 19) (.bool t19) h_26 e27 ?_
  refine oV [(19, .bool t19)] (n22 ?_)
  cases t19 with
  | true =>
   refine oT hF fun hF => ?_
   cases hF
  | false =>
   refine oU hF fun hF => ?_
   refine oZ ?_
   exact gW _ (J8 _ hF)
noncomputable def strings_Builder_grow (_ : CallF) (_ : Nat) (t0 : AV) (t1 : Int) (h : AHeap) : R :=
 obind (nilC t0) fun t6 =>
 obind (fldP 1 t6) fun t7 =>
 obind (ldCell h t7) fun v8 =>
 obind (nilC t0) fun t15 =>
 obind (fldP 1 t15) fun t16 =>
 obind (ldCell h t16) fun v17 =>
 obind (lenL v17) fun t18 =>
 outK (builtinA Try.prog .cap #[46] [v8] h) fun v9 h_9 =>
 obind (avInt .i64 v9) fun t9 =>
 chk (reLoad Try.prog h_9 46 t16 v17 && (true && true)) <|
 lett (IntKind.i64.wrap (2 * t9)) fun (t10 : Int) =>
 lett (IntKind.i64.wrap (t10 + t1)) fun (t12 : Int) =>
 outK (externM Try.prog h_9 76 [.int .i64 t12]) fun v13 h_17 =>
 chk (reLoad Try.prog h_17 46 t16 v17 && (true && true)) <|
 outK (sliceA Try.prog h_17 46 v13 none (some (.int .i64 t18))) fun v19 h_20 =>
 obind (nilC t0) fun t22 =>
 obind (fldP 1 t22) fun t23 =>
 obind (ldCell h_20 t23) fun v24 =>
 outK (opCopy Try.prog h_20 46 v19 v24) fun v25 h_26 =>
 obind (avInt .i64 v25) fun _ =>
 obind (nilC t0) fun t28 =>
 obind (fldP 1 t28) fun t29 =>
 obind (stRow h_26 1 (AV.cells v19) t29) fun h_31 =>
 some (.ret (.tup []), h_31)
set_option maxHeartbeats 4000000 in
set_option maxRecDepth 20000 in
theorem strings_Builder_grow_ok {call : CallF} (hc : SaysAll Try.prog call) {n : Nat} {t0 : AV} {t1 : Int} {h : AHeap} {rR : ARes} {hR : AHeap} (hF : strings_Builder_grow call n t0 t1 h = some (rR, hR)) : Says Try.prog 58 [t0, .int .i64 t1] h rR hR := by
 unfold strings_Builder_grow at hF
 refine sO Try.func58 fun w0 m0 => ?_
 refine wW [(0, t0), (1, .int .i64 t1)] ?_
 refine oG fun n1 => ?_
 refine W.draw (by kernel_rfl) (hc.ok w0) (plan := [0, 1, 2, 3, 6, 9, 10, 11, 12, 13, 4, 5, 7, 8, 14, 15]) (by kernel_rfl) (by kernel_rfl) (by kernel_rfl) ?_
 refine WD.a 0 (some 5) t0 h ?_
 obtain ⟨t6, e2, hF⟩ := obind_some hF
 refine WD.b 0 (some 6) t6 h (nil_chk (h := h) e2) ?_
 obtain ⟨t7, e3, hF⟩ := obind_some hF
 refine WD.b 0 (some 7) t7 h (field_ptr (P := Try.prog) (h := h) (s := 89) (f := 1) (by kernel_rfl) e3) ?_
 obtain ⟨v8, e4, hF⟩ := obind_some hF
 refine WD.b 1 (some 8) v8 h (load_cell (P := Try.prog) (h := h) (t := 46) (by kernel_rfl) e4) ?_
 refine WD.a 0 (some 11) (.int .i64 t1) h ?_
 refine WD.a 0 (some 14) t0 h ?_
 obtain ⟨t15, e5, hF⟩ := obind_some hF
 refine WD.b 0 (some 15) t15 h (nil_chk (h := h) e5) ?_
 obtain ⟨t16, e6, hF⟩ := obind_some hF
 refine WD.b 0 (some 16) t16 h (field_ptr (P := Try.prog) (h := h) (s := 89) (f := 1) (by kernel_rfl) e6) ?_
 obtain ⟨v17, e7, hF⟩ := obind_some hF
 refine WD.b 1 (some 17) v17 h (load_cell (P := Try.prog) (h := h) (t := 46) (by kernel_rfl) e7) ?_
 obtain ⟨t18, e8, hF⟩ := obind_some hF
 refine WD.b 0 (some 18) (.int .i64 t18) h (len_row (P := Try.prog) (h := h) (t := 46) (e' := 5) (by kernel_rfl) e8) ?_
 replace hF := outK_some hF; obtain ⟨v9, h_9, e10, hF⟩ := hF
 replace hF := obind_some hF; obtain ⟨t9, c11, hF⟩ := hF
 have c11 := avInt_some c11
 subst c11
 obtain ⟨k12, hF⟩ := chk_some hF
 refine WD.val (d := (some 9)) (v := .int .i64 t9) (h' := h_9) (by kernel_rfl) (by kernel_rfl) (Eq.trans (by kernel_rfl) e10) (k := 2) (by kernel_rfl) (fun _ => (Eq.trans (by kernel_rfl) k12)) (by decide) ?_
 obtain ⟨t10, e13, hF⟩ := lett_some hF
 refine WD.val (d := (some 10)) (v := .int .i64 t10) (h' := h_9) (by kernel_rfl) (by kernel_rfl) (val_of (AV.int .i64) e13 (by kernel_rfl)) (k := 0) (by kernel_rfl) (fun e => absurd e (by decide)) (by decide) ?_
 obtain ⟨t12, e14, hF⟩ := lett_some hF
 refine WD.val (d := (some 12)) (v := .int .i64 t12) (h' := h_9) (by kernel_rfl) (by kernel_rfl) (val_of (AV.int .i64) e14 (by kernel_rfl)) (k := 0) (by kernel_rfl) (fun e => absurd e (by decide)) (by decide) ?_
 obtain ⟨v13, h_17, e18, hF⟩ := outK_some hF
 obtain ⟨k19, hF⟩ := chk_some hF
 refine WD.val (d := (some 13)) (v := v13) (h' := h_17) (by kernel_rfl) (by kernel_rfl) (Eq.trans (by kernel_rfl) e18) (k := 2) (by kernel_rfl) (fun _ => (Eq.trans (by kernel_rfl) k19)) (by decide) ?_
 obtain ⟨v19, h_20, e21, hF⟩ := outK_some hF
 refine WD.b 0 (some 19) v19 h_20 e21 ?_
 refine WD.a 0 (some 4) v19 h_20 ?_
 refine WD.nil ?_
 refine gW [(0, t0), (4, v19)] (n1 ?_)
 refine oG fun n22 => W.r ?_
 refine oA 20 v19 ?_
 refine oA 21 t0 ?_
 refine oC0 22 hF fun t22 hF => ?_
 refine oF 23 89 1 hF fun t23 hF => ?_
 refine oL 24 46 hF fun v24 hF => ?_
 replace hF := outK_some hF; obtain ⟨v25, h_26, e27, hF⟩ := hF
 replace hF := obind_some hF; obtain ⟨t25, c28, hF⟩ := hF
 have c28 := avInt_some c28
 subst c28
 refine WL.b (some 25) (.int .i64 t25) h_26 e27 ?_
 refine oV [(0, t0), (4, v19)] (n22 (W.r ?_))
 refine oA 26 t0 ?_
 refine oA 27 v19 ?_
 refine oC0 28 hF fun t28 hF => ?_
 refine oF 29 89 1 hF fun t29 hF => ?_
 refine oW 46 v19 hF fun h_31 hF => ?_
 refine oV [] ?_
 exact lY hF [] [] res_nil
noncomputable def strings_Join_L1b (t0 : AV) (t40 : Int) (k25 : Int → AHeap → R) (self : Int → Int → AHeap → R) (t5_71 : Int) (t41 : Int) (h_72 : AHeap) : R :=
 lett (decide (t41 < t40)) fun (t42 : Bool) =>
 ifB t42
 (
  obind (idxP 1 t0 t41) fun t43 =>
  obind (ldCell h_72 t43) fun v44 =>
  obind (avStr v44) fun t44 =>
  lett (IntKind.i64.wrap (9223372036854775807 - t5_71)) fun (t48 : Int) =>
  lett (decide ((lenS t44) > t48)) fun (t49 : Bool) =>
  lett (fun  (h_87 : AHeap) =>
   lett (IntKind.i64.wrap (t5_71 + (lenS t44))) fun (t54 : Int) =>
   lett (IntKind.i64.wrap (t41 + 1)) fun (t55 : Int) =>
   self t54 t55 h_87) fun k86 =>
  ifB t49
  (
   panK (AV.ifc 9 (strA ([115, 116, 114, 105, 110, 103, 115, 58, 32, 74, 111, 105, 110, 32, 111, 117, 116, 112, 117, 116, 32, 108, 101, 110, 103, 116, 104, 32, 111, 118, 101, 114, 102, 108, 111, 119] : Bytes))) h_72)
  (
   k86 h_72))
 (
  k25 t5_71 h_72)
noncomputable def strings_Join_L1 (t0 : AV) (t40 : Int) (k25 : Int → AHeap → R) : Nat → Int → Int → AHeap → R := iterR (fun _ _ _ => none) (strings_Join_L1b t0 t40 k25)
theorem strings_Join_L1_s (t0 : AV) (t40 : Int) (k25 : Int → AHeap → R) (m : Nat) : strings_Join_L1 t0 t40 k25 (m + 1) = strings_Join_L1b t0 t40 k25 (strings_Join_L1 t0 t40 k25 m) := rfl
noncomputable def strings_Join_L0b (call : CallF) (t1 : Bytes) (h_27 : AHeap) (v63 : AV) (t64 : Int) (k46 : AHeap → R) (self : Int → AHeap → R) (t65 : Int) (h_53 : AHeap) : R :=
 lett (decide (t65 < t64)) fun (t66 : Bool) =>
 ifB t66
 (
  obind (idxP 1 v63 t65) fun t67 =>
  obind (ldCell h_53 t67) fun v68 =>
  obind (avStr v68) fun t68 =>
  callN (call 34 [(newP h_27), strA t1] h_53) fun _ h_64 =>
  callN (call 34 [(newP h_27), strA t68] h_64) fun _ h_66 =>
  lett (IntKind.i64.wrap (t65 + 1)) fun (t73 : Int) =>
  self t73 h_66)
 (
  k46 h_53)
noncomputable def strings_Join_L0 (call : CallF) (t1 : Bytes) (h_27 : AHeap) (v63 : AV) (t64 : Int) (k46 : AHeap → R) : Nat → Int → AHeap → R := iterR (fun _ _ => none) (strings_Join_L0b call t1 h_27 v63 t64 k46)
theorem strings_Join_L0_s (call : CallF) (t1 : Bytes) (h_27 : AHeap) (v63 : AV) (t64 : Int) (k46 : AHeap → R) (m : Nat) : strings_Join_L0 call t1 h_27 v63 t64 k46 (m + 1) = strings_Join_L0b call t1 h_27 v63 t64 k46 (strings_Join_L0 call t1 h_27 v63 t64 k46 m) := rfl
noncomputable def strings_Join (call : CallF) (n : Nat) (t0 : AV) (t1 : Bytes) (h : AHeap) : R :=
 obind (lenL t0) fun t12 =>
 lett ((t12 : Int) == 0) fun (t14 : Bool) =>
 ifB t14
 (
  some (.ret (strA ([] : Bytes)), h))
 (
  lett ((t12 : Int) == 1) fun (t16 : Bool) =>
  ifB t16
  (
   obind (idxP 1 t0 0) fun t18 =>
   obind (ldCell h t18) fun v19 =>
   obind (avStr v19) fun t19 =>
   some (.ret (strA t19), h))
  (
   lett (decide ((lenS t1) > 0)) fun (t22 : Bool) =>
   lett (fun (t5 : Int) (h_20 : AHeap) =>
    obind (lenL t0) fun t40 =>
    lett (fun (t5_26 : Int) (h_27 : AHeap) =>
     lett (newH h_27 89 [.nilp, .nsl]) fun h_29 =>
     callK (call 33 [(newP h_27), .int .i64 t5_26] h_29) fun _ h_32 =>
     obind (idxP 1 t0 0) fun t59 =>
     obind (ldCell h_32 t59) fun v60 =>
     obind (avStr v60) fun t60 =>
     callN (call 34 [(newP h_27), strA t60] h_32) fun _ h_38 =>
     outK (sliceA Try.prog h_38 81 t0 (some (.int .i64 1)) none) fun v63 h_42 =>
     obind (lenL v63) fun t64 =>
     lett (fun  (h_47 : AHeap) =>
      callN (call 36 [(newP h_27)] h_47) fun r74 h_49 =>
      obind (avStr r74) fun t74 =>
      some (.ret (strA t74), h_49)) fun k46 =>
     strings_Join_L0 call t1 h_27 v63 t64 k46 n 0 h_42) fun k25 =>
    strings_Join_L1 t0 t40 k25 n t5 0 h_20) fun k19 =>
   ifB t22
   (
    obind (lenL t0) fun t26 =>
    lett (IntKind.i64.wrap (t26 - 1)) fun (t27 : Int) =>
    obind (quoI .i64 9223372036854775807 t27) fun t28 =>
    lett (decide ((lenS t1) ≥ t28)) fun (t29 : Bool) =>
    lett (fun  (h_99 : AHeap) =>
     obind (lenL t0) fun t35 =>
     lett (IntKind.i64.wrap (t35 - 1)) fun (t36 : Int) =>
     lett (IntKind.i64.wrap ((lenS t1) * t36)) fun (t37 : Int) =>
     lett (IntKind.i64.wrap (0 + t37)) fun (t38 : Int) =>
     k19 t38 h_99) fun k98 =>
    ifB t29
    (
     panK (AV.ifc 9 (strA ([115, 116, 114, 105, 110, 103, 115, 58, 32, 74, 111, 105, 110, 32, 111, 117, 116, 112, 117, 116, 32, 108, 101, 110, 103, 116, 104, 32, 111, 118, 101, 114, 102, 108, 111, 119] : Bytes))) h)
    (
     k98 h))
   (
    k19 0 h)))
set_option maxHeartbeats 4000000 in
set_option maxRecDepth 20000 in
theorem strings_Join_ok {call : CallF} (hc : SaysAll Try.prog call) {n : Nat} {t0 : AV} {t1 : Bytes} {h : AHeap} {rR : ARes} {hR : AHeap} (hF : strings_Join call n t0 t1 h = some (rR, hR)) : Says Try.prog 80 [t0, strA t1] h rR hR := by
 unfold strings_Join at hF
 refine sO Try.func80 fun w0 m0 => ?_
 refine wW [(0, t0), (1, strA t1)] ?_
 refine oG fun n1 => W.r ?_
 refine oA 4 (strA ([] : Bytes)) ?_
 refine oV [(0, t0), (1, strA t1)] (n1 ?_)
 refine oH fun n2 q2 => ?_
 refine oG fun n3 => W.r ?_
 refine oA 11 t0 ?_
 refine oM 12 81 9 hF fun t12 hF => ?_
 refine oV [(0, t0), (1, strA t1), (12, .int .i64 t12)] (n3 ?_)
 refine W.blockK (by kernel_rfl) (fun K5 n5 s5 o5 q5 p5 => ?_)
 refine oG fun n6 => W.r ?_
 refine oB 14 hF fun t14 hF => ?_
 refine oA 13 (.bool t14) ?_
 refine oV [(0, t0), (1, strA t1), (12, .int .i64 t12), (13, .bool t14)] (n6 ?_)
 cases t14 with
 | true =>
  refine oT hF fun hF => ?_
  refine oG fun n8 => W.r ?_
  refine oA 4 (strA ([] : Bytes)) ?_
  refine oV [(4, strA ([] : Bytes))] (n8 (oY (q5 (q2 ?_))))
  exact lZ hF [.tmp 4] [strA ([] : Bytes)] (rT res_nil)
 | false =>
  refine oU hF fun hF => ?_
  refine oG fun n9 => W.r ?_
  refine oB 16 hF fun t16 hF => ?_
  refine oA 15 (.bool t16) ?_
  refine oV [(0, t0), (1, strA t1), (15, .bool t16)] (n9 ?_)
  cases t16 with
  | true =>
   refine oT hF fun hF => ?_
   refine oG fun n11 => W.r ?_
   refine oA 17 t0 ?_
   refine oP 18 81 9 .i64 hF fun t18 hF => ?_
   refine oLs 19 9 hF fun t19 hF => ?_
   refine oA 4 (strA t19) ?_
   refine oV [(4, strA t19)] (n11 (oY (q5 (q2 ?_))))
   exact lZ hF [.tmp 4] [strA t19] (rT res_nil)
  | false =>
   refine oU hF fun hF => ?_
   refine oZ (n5 (n2 ?_))
   refine oG fun n15 => W.r ?_
   refine oA 5 (.int .i64 0) ?_
   refine oV [(0, t0), (1, strA t1), (5, .int .i64 0)] (n15 ?_)
   refine W.s (fun K16 n16 e16 q16 p16 => ?_)
   refine oG fun n17 => W.r ?_
   refine oA 20 (strA t1) ?_
   refine oA 21 (.int .i64 (lenS t1)) ?_
   refine oB 22 hF fun t22 hF => ?_
   refine oV [(0, t0), (1, strA t1), (5, .int .i64 0), (22, .bool t22)] (n17 ?_)
   obtain ⟨k19, e19, hF⟩ := lett_some hF
   have J19 : ∀ (t5 : Int) (h_20 : AHeap), k19 t5 h_20 = some (rR, hR) → Go w0 m0 (Func.ntmps Try.f80) (K16 .normal) [(0, t0), (1, strA t1), (5, .int .i64 t5)] [] h_20 := by
    intro t5 h_20 hF
    rw [e19] at hF
    refine n16 ?_
    refine W.s (fun K21 n21 e21 q21 p21 => ?_)
    refine oG fun n22 => W.r ?_
    refine oA 39 t0 ?_
    refine oM 40 81 9 hF fun t40 hF => ?_
    refine oA 41 (.int .i64 0) ?_
    refine oV [(0, t0), (1, strA t1), (5, .int .i64 t5), (39, t0), (40, .int .i64 t40), (41, .int .i64 0)] (n22 ?_)
    obtain ⟨k25, e25, hF⟩ := lett_some hF
    have J25 : ∀ (t5_26 : Int) (h_27 : AHeap), k25 t5_26 h_27 = some (rR, hR) → Go w0 m0 (Func.ntmps Try.f80) (K21 .normal) [(0, t0), (1, strA t1), (5, .int .i64 t5_26)] [] h_27 := by
     intro t5_26 h_27 hF
     rw [e25] at hF
     refine n21 ?_
     refine oG fun n28 => W.r ?_
     refine oN 8 hF fun h_29 hF => ?_
     refine oV [(0, t0), (1, strA t1), (5, .int .i64 t5_26), (8, (newP h_27))] (n28 ?_)
     refine oJ fun n31 p31 => W.r ?_
     refine oA 56 (.int .i64 t5_26) ?_
     refine oCK hc (some 57) hF (fun q => p31 (Pf q)) fun r57 h_32 hF => ?_
     refine oV [(0, t0), (1, strA t1), (8, (newP h_27))] (n31 ?_)
     refine oG fun n34 => W.r ?_
     refine oA 58 t0 ?_
     refine oP 59 81 9 .i64 hF fun t59 hF => ?_
     refine oLs 60 9 hF fun t60 hF => ?_
     refine oC hc (some 61) hF fun r61 h_38 hF => ?_
     refine oV [(0, t0), (1, strA t1), (8, (newP h_27))] (n34 ?_)
     refine W.s (fun K40 n40 e40 q40 p40 => ?_)
     refine oG fun n41 => W.r ?_
     refine oA 62 t0 ?_
     refine oK 63 hF fun v63 h_42 hF => ?_
     refine oM 64 81 9 hF fun t64 hF => ?_
     refine oA 65 (.int .i64 0) ?_
     refine oV [(1, strA t1), (8, (newP h_27)), (63, v63), (64, .int .i64 t64), (65, .int .i64 0)] (n41 ?_)
     obtain ⟨k46, e46, hF⟩ := lett_some hF
     have J46 : ∀  (h_47 : AHeap), k46 h_47 = some (rR, hR) → Go w0 m0 (Func.ntmps Try.f80) (K40 .normal) [(8, (newP h_27))] [] h_47 := by
      intro  h_47 hF
      rw [e46] at hF
      refine n40 ?_
      refine oG fun n48 => W.r ?_
      refine oCs hc 74 hF fun t74 h_49 hF => ?_
      refine oA 4 (strA t74) ?_
      refine oV [(4, strA t74)] (n48 (oY ?_))
      exact lZ hF [.tmp 4] [strA t74] (rT res_nil)
     refine W.blockK (by kernel_rfl) (fun K45 n45 s45 o45 q45 p45 => ?_)
     refine W.loopK (by kernel_rfl) (fun I52 K52 b52 n52 e52 q52 p52 => ?_)
     have L52 : ∀ (m : Nat) (t65 : Int) (h_53 : AHeap), strings_Join_L0 call t1 h_27 v63 t64 k46 m t65 h_53 = some (rR, hR) → Go w0 m0 (Func.ntmps Try.f80) I52 [(1, strA t1), (8, (newP h_27)), (63, v63), (64, .int .i64 t64), (65, .int .i64 t65)] [] h_53 := by
      intro m
      induction m with
      | zero => intro t65 h_53 hF; cases hF
      | succ m ih52 =>
       intro t65 h_53 hF
       rw [strings_Join_L0_s] at hF; unfold strings_Join_L0b at hF
       refine b52 ?_
       refine oG fun n54 => W.r ?_
       refine oB 66 hF fun t66 hF => ?_
       refine oV [(1, strA t1), (8, (newP h_27)), (63, v63), (64, .int .i64 t64), (65, .int .i64 t65), (66, .bool t66)] (n54 ?_)
       refine W.s (fun K56 n56 e56 q56 p56 => ?_)
       cases t66 with
       | true =>
        refine oT hF fun hF => ?_
        refine oZ (n56 ?_)
        refine oG fun n57 => ?_
        refine W.blockK (by kernel_rfl) (fun K58 n58 s58 o58 q58 p58 => ?_)
        refine oG fun n59 => W.r ?_
        refine oP 67 81 9 .i64 hF fun t67 hF => ?_
        refine oLs 68 9 hF fun t68 hF => ?_
        refine oA 10 (strA t68) ?_
        refine oV [(1, strA t1), (8, (newP h_27)), (10, strA t68), (63, v63), (64, .int .i64 t64), (65, .int .i64 t65)] (n59 ?_)
        refine oG fun n63 => W.r ?_
        refine oA 69 (strA t1) ?_
        refine oC hc (some 70) hF fun r70 h_64 hF => ?_
        refine oV [(1, strA t1), (8, (newP h_27)), (10, strA t68), (63, v63), (64, .int .i64 t64), (65, .int .i64 t65)] (n63 (W.r ?_))
        refine oA 71 (strA t68) ?_
        refine oC hc (some 72) hF fun r72 h_66 hF => ?_
        refine oV [(1, strA t1), (8, (newP h_27)), (63, v63), (64, .int .i64 t64), (65, .int .i64 t65)] (n58 (n57 (W.r ?_)))
        refine oI 73 .i64 hF fun t73 hF => ?_
        refine oA 65 (.int .i64 t73) ?_
        refine oV [(1, strA t1), (8, (newP h_27)), (63, v63), (64, .int .i64 t64), (65, .int .i64 t73)] (n52 ?_)
        exact gW _ (ih52 _ _ hF)
       | false =>
        refine oU hF fun hF => ?_
        refine W.exit (by kernel_rfl) ?_
        refine e56 (e52 ?_)
        refine s45 (by kernel_rfl) ?_
        exact gW _ (J46 _ hF)
     exact gW _ (L52 _ _ _ hF)
    refine W.blockK (by kernel_rfl) (fun K24 n24 s24 o24 q24 p24 => ?_)
    refine W.loopK (by kernel_rfl) (fun I70 K70 b70 n70 e70 q70 p70 => ?_)
    have L70 : ∀ (m : Nat) (t5_71 : Int) (t41 : Int) (h_72 : AHeap), strings_Join_L1 t0 t40 k25 m t5_71 t41 h_72 = some (rR, hR) → Go w0 m0 (Func.ntmps Try.f80) I70 [(0, t0), (1, strA t1), (5, .int .i64 t5_71), (39, t0), (40, .int .i64 t40), (41, .int .i64 t41)] [] h_72 := by
     intro m
     induction m with
     | zero => intro t5_71 t41 h_72 hF; cases hF
     | succ m ih70 =>
      intro t5_71 t41 h_72 hF
      rw [strings_Join_L1_s] at hF; unfold strings_Join_L1b at hF
      refine b70 ?_
      refine oG fun n73 => W.r ?_
      refine oB 42 hF fun t42 hF => ?_
      refine oV [(0, t0), (1, strA t1), (5, .int .i64 t5_71), (39, t0), (40, .int .i64 t40), (41, .int .i64 t41), (42, .bool t42)] (n73 ?_)
      refine W.s (fun K75 n75 e75 q75 p75 => ?_)
      cases t42 with
      | true =>
       refine oT hF fun hF => ?_
       refine oZ (n75 ?_)
       refine oJ fun n76 p76 => ?_
       refine W.blockK (by kernel_rfl) (fun K77 n77 s77 o77 q77 p77 => ?_)
       refine oG fun n78 => W.r ?_
       refine oP 43 81 9 .i64 hF fun t43 hF => ?_
       refine oLs 44 9 hF fun t44 hF => ?_
       refine oA 7 (strA t44) ?_
       refine oV [(0, t0), (1, strA t1), (5, .int .i64 t5_71), (7, strA t44), (39, t0), (40, .int .i64 t40), (41, .int .i64 t41)] (n78 ?_)
       refine W.s (fun K82 n82 e82 q82 p82 => ?_)
       refine oG fun n83 => W.r ?_
       refine oA 45 (strA t44) ?_
       refine oA 46 (.int .i64 (lenS t44)) ?_
       refine oA 47 (.int .i64 t5_71) ?_
       refine oI 48 .i64 hF fun t48 hF => ?_
       refine oB 49 hF fun t49 hF => ?_
       refine oV [(0, t0), (1, strA t1), (5, .int .i64 t5_71), (7, strA t44), (39, t0), (40, .int .i64 t40), (41, .int .i64 t41), (49, .bool t49)] (n83 ?_)
       obtain ⟨k86, e86, hF⟩ := lett_some hF
       have J86 : ∀  (h_87 : AHeap), k86 h_87 = some (rR, hR) → Go w0 m0 (Func.ntmps Try.f80) (K82 .normal) [(0, t0), (1, strA t1), (5, .int .i64 t5_71), (7, strA t44), (39, t0), (40, .int .i64 t40), (41, .int .i64 t41)] [] h_87 := by
        intro  h_87 hF
        rw [e86] at hF
        refine n82 (W.r ?_)
        refine oA 51 (.int .i64 t5_71) ?_
        refine oA 52 (strA t44) ?_
        refine oA 53 (.int .i64 (lenS t44)) ?_
        refine oI 54 .i64 hF fun t54 hF => ?_
        refine oA 5 (.int .i64 t54) ?_
        refine oV [(0, t0), (1, strA t1), (5, .int .i64 t54), (39, t0), (40, .int .i64 t40), (41, .int .i64 t41)] (n77 (n76 (W.r ?_)))
        refine oI 55 .i64 hF fun t55 hF => ?_
        refine oA 41 (.int .i64 t55) ?_
        refine oV [(0, t0), (1, strA t1), (5, .int .i64 t54), (39, t0), (40, .int .i64 t40), (41, .int .i64 t55)] (n70 ?_)
        exact gW _ (ih70 _ _ _ hF)
       cases t49 with
       | true =>
        refine oT hF fun hF => ?_
        refine W.r ?_
        refine oA 50 (AV.ifc 9 (strA ([115, 116, 114, 105, 110, 103, 115, 58, 32, 74, 111, 105, 110, 32, 111, 117, 116, 112, 117, 116, 32, 108, 101, 110, 103, 116, 104, 32, 111, 118, 101, 114, 102, 108, 111, 119] : Bytes))) ?_
        replace hF := panK_some hF; obtain ⟨a91t, a91v, e90, e902⟩ := hF
        cases e902
        exact WL.pan (d := none) (by kernel_rfl) (by kernel_rfl) (Eq.trans (by kernel_rfl) (congrArg (fun x => opPanic _ (some x)) e90)) (p82 (p77 (p76 (p70 (p24 (p21 Pan.fin))))))
       | false =>
        refine oU hF fun hF => ?_
        refine oZ ?_
        exact gW _ (J86 _ hF)
      | false =>
       refine oU hF fun hF => ?_
       refine W.exit (by kernel_rfl) ?_
       refine e75 (e70 ?_)
       refine s24 (by kernel_rfl) ?_
       exact gW _ (J25 _ _ hF)
    exact gW _ (L70 _ _ _ _ hF)
   cases t22 with
   | true =>
    refine oT hF fun hF => ?_
    refine W.s (fun K92 n92 e92 q92 p92 => ?_)
    refine oG fun n93 => W.r ?_
    refine oA 23 (strA t1) ?_
    refine oA 24 (.int .i64 (lenS t1)) ?_
    refine oA 25 t0 ?_
    refine oM 26 81 9 hF fun t26 hF => ?_
    refine oI 27 .i64 hF fun t27 hF => ?_
    obtain ⟨t28, e96, hF⟩ := obind_some hF
    refine WL.b (some 28) (.int .i64 t28) h (quo_int (P := Try.prog) (h := h) (t := 3) (lit := true) e96) ?_
    refine oB 29 hF fun t29 hF => ?_
    refine oV [(0, t0), (1, strA t1), (5, .int .i64 0), (29, .bool t29)] (n93 ?_)
    obtain ⟨k98, e98, hF⟩ := lett_some hF
    have J98 : ∀  (h_99 : AHeap), k98 h_99 = some (rR, hR) → Go w0 m0 (Func.ntmps Try.f80) (K92 .normal) [(0, t0), (1, strA t1), (5, .int .i64 0)] [] h_99 := by
     intro  h_99 hF
     rw [e98] at hF
     refine n92 (W.r ?_)
     refine oA 31 (.int .i64 0) ?_
     refine oA 32 (strA t1) ?_
     refine oA 33 (.int .i64 (lenS t1)) ?_
     refine oA 34 t0 ?_
     refine oM 35 81 9 hF fun t35 hF => ?_
     refine oI 36 .i64 hF fun t36 hF => ?_
     refine oI 37 .i64 hF fun t37 hF => ?_
     refine oI 38 .i64 hF fun t38 hF => ?_
     refine oA 5 (.int .i64 t38) ?_
     refine oV [(0, t0), (1, strA t1), (5, .int .i64 t38)] ?_
     exact gW _ (J19 _ _ hF)
    cases t29 with
    | true =>
     refine oT hF fun hF => ?_
     refine W.r ?_
     refine oA 30 (AV.ifc 9 (strA ([115, 116, 114, 105, 110, 103, 115, 58, 32, 74, 111, 105, 110, 32, 111, 117, 116, 112, 117, 116, 32, 108, 101, 110, 103, 116, 104, 32, 111, 118, 101, 114, 102, 108, 111, 119] : Bytes))) ?_
     replace hF := panK_some hF; obtain ⟨a105t, a105v, e104, e1042⟩ := hF
     cases e1042
     exact WL.pan (d := none) (by kernel_rfl) (by kernel_rfl) (Eq.trans (by kernel_rfl) (congrArg (fun x => opPanic _ (some x)) e104)) (p92 (p16 Pan.fin))
    | false =>
     refine oU hF fun hF => ?_
     refine oZ ?_
     exact gW _ (J98 _ hF)
   | false =>
    refine oU hF fun hF => ?_
    refine oZ ?_
    exact gW _ (J19 _ _ hF)
noncomputable def slices_Contains___int_int_ (call : CallF) (_ : Nat) (t0 : AV) (t1 : Int) (h : AHeap) : R :=
 callN (call 81 [t0, .int .i64 t1] h) fun r7 h_3 =>
 obind (avInt .i64 r7) fun t7 =>
 lett (decide (t7 ≥ 0)) fun (t8 : Bool) =>
 some (.ret (.bool t8), h_3)
set_option maxHeartbeats 4000000 in
set_option maxRecDepth 20000 in
theorem slices_Contains___int_int__ok {call : CallF} (hc : SaysAll Try.prog call) {n : Nat} {t0 : AV} {t1 : Int} {h : AHeap} {rR : ARes} {hR : AHeap} (hF : slices_Contains___int_int_ call n t0 t1 h = some (rR, hR)) : Says Try.prog 62 [t0, .int .i64 t1] h rR hR := by
 unfold slices_Contains___int_int_ at hF
 refine sO Try.func62 fun w0 m0 => ?_
 refine wW [(0, t0), (1, .int .i64 t1)] ?_
 refine oG fun n1 => W.r ?_
 refine oA 4 (.bool false) ?_
 refine oV [(0, t0), (1, .int .i64 t1)] (n1 ?_)
 refine oG fun n2 => W.r ?_
 refine oA 5 t0 ?_
 refine oA 6 (.int .i64 t1) ?_
 refine oCi hc 7 hF fun t7 h_3 hF => ?_
 refine oB 8 hF fun t8 hF => ?_
 refine oA 4 (.bool t8) ?_
 refine oV [(4, .bool t8)] (n2 (oY ?_))
 exact lZ hF [.tmp 4] [.bool t8] (rT res_nil)
noncomputable def slices_Index___int_int__L0b (t0 : AV) (t1 : Int) (t7 : Int) (k6 : AHeap → R) (self : Int → AHeap → R) (t8 : Int) (h_10 : AHeap) : R :=
 lett (decide (t8 < t7)) fun (t9 : Bool) =>
 ifB t9
 (
  obind (idxP 1 t0 t8) fun t14 =>
  obind (ldCell h_10 t14) fun v15 =>
  obind (avInt .i64 v15) fun t15 =>
  lett ((t1 : Int) == t15) fun (t16 : Bool) =>
  ifB t16
  (
   some (.ret (.int .i64 t8), h_10))
  (
   lett (IntKind.i64.wrap (t8 + 1)) fun (t18 : Int) =>
   self t18 h_10))
 (
  k6 h_10)
noncomputable def slices_Index___int_int__L0 (t0 : AV) (t1 : Int) (t7 : Int) (k6 : AHeap → R) : Nat → Int → AHeap → R := iterR (fun _ _ => none) (slices_Index___int_int__L0b t0 t1 t7 k6)
theorem slices_Index___int_int__L0_s (t0 : AV) (t1 : Int) (t7 : Int) (k6 : AHeap → R) (m : Nat) : slices_Index___int_int__L0 t0 t1 t7 k6 (m + 1) = slices_Index___int_int__L0b t0 t1 t7 k6 (slices_Index___int_int__L0 t0 t1 t7 k6 m) := rfl
noncomputable def slices_Index___int_int_ (_ : CallF) (n : Nat) (t0 : AV) (t1 : Int) (h : AHeap) : R :=
 obind (lenL t0) fun t7 =>
 lett (fun  (h_7 : AHeap) =>
  some (.ret (.int .i64 (-1)), h_7)) fun k6 =>
 slices_Index___int_int__L0 t0 t1 t7 k6 n 0 h
set_option maxHeartbeats 4000000 in
set_option maxRecDepth 20000 in
theorem slices_Index___int_int__ok {call : CallF} (_ : SaysAll Try.prog call) {n : Nat} {t0 : AV} {t1 : Int} {h : AHeap} {rR : ARes} {hR : AHeap} (hF : slices_Index___int_int_ call n t0 t1 h = some (rR, hR)) : Says Try.prog 81 [t0, .int .i64 t1] h rR hR := by
 unfold slices_Index___int_int_ at hF
 refine sO Try.func81 fun w0 m0 => ?_
 refine wW [(0, t0), (1, .int .i64 t1)] ?_
 refine oG fun n1 => W.r ?_
 refine oA 4 (.int .i64 0) ?_
 refine oV [(0, t0), (1, .int .i64 t1)] (n1 ?_)
 refine W.s (fun K2 n2 e2 q2 p2 => ?_)
 refine oG fun n3 => W.r ?_
 refine oA 6 t0 ?_
 refine oM 7 44 3 hF fun t7 hF => ?_
 refine oA 8 (.int .i64 0) ?_
 refine oV [(0, t0), (1, .int .i64 t1), (7, .int .i64 t7), (8, .int .i64 0)] (n3 ?_)
 obtain ⟨k6, e6, hF⟩ := lett_some hF
 have J6 : ∀  (h_7 : AHeap), k6 h_7 = some (rR, hR) → Go w0 m0 (Func.ntmps Try.f81) (K2 .normal) [] [] h_7 := by
  intro  h_7 hF
  rw [e6] at hF
  refine n2 ?_
  refine oG fun n8 => W.r ?_
  refine oA 4 (.int .i64 (-1)) ?_
  refine oV [(4, .int .i64 (-1))] (n8 (oY ?_))
  exact lZ hF [.tmp 4] [.int .i64 (-1)] (rT res_nil)
 refine W.blockK (by kernel_rfl) (fun K5 n5 s5 o5 q5 p5 => ?_)
 refine W.loopK (by kernel_rfl) (fun I9 K9 b9 n9 e9 q9 p9 => ?_)
 have L9 : ∀ (m : Nat) (t8 : Int) (h_10 : AHeap), slices_Index___int_int__L0 t0 t1 t7 k6 m t8 h_10 = some (rR, hR) → Go w0 m0 (Func.ntmps Try.f81) I9 [(0, t0), (1, .int .i64 t1), (7, .int .i64 t7), (8, .int .i64 t8)] [] h_10 := by
  intro m
  induction m with
  | zero => intro t8 h_10 hF; cases hF
  | succ m ih9 =>
   intro t8 h_10 hF
   rw [slices_Index___int_int__L0_s] at hF; unfold slices_Index___int_int__L0b at hF
   refine b9 ?_
   refine oG fun n11 => W.r ?_
   refine oB 9 hF fun t9 hF => ?_
   refine oV [(0, t0), (1, .int .i64 t1), (7, .int .i64 t7), (8, .int .i64 t8), (9, .bool t9)] (n11 ?_)
   refine W.s (fun K13 n13 e13 q13 p13 => ?_)
   cases t9 with
   | true =>
    refine oT hF fun hF => ?_
    refine oZ (n13 ?_)
    refine oH fun n14 q14 => ?_
    refine W.blockK (by kernel_rfl) (fun K15 n15 s15 o15 q15 p15 => ?_)
    refine oG fun n16 => W.r ?_
    refine oA 10 (.int .i64 t8) ?_
    refine oA 5 (.int .i64 t8) ?_
    refine oV [(0, t0), (1, .int .i64 t1), (5, .int .i64 t8), (7, .int .i64 t7), (8, .int .i64 t8)] (n16 ?_)
    refine oG fun n17 => W.r ?_
    refine oA 11 (.int .i64 t1) ?_
    refine oA 12 t0 ?_
    refine oA 13 (.int .i64 t8) ?_
    refine oP 14 44 3 .i64 hF fun t14 hF => ?_
    refine oLi 15 3 hF fun t15 hF => ?_
    refine oB 16 hF fun t16 hF => ?_
    refine oV [(0, t0), (1, .int .i64 t1), (5, .int .i64 t8), (7, .int .i64 t7), (8, .int .i64 t8), (16, .bool t16)] (n17 ?_)
    cases t16 with
    | true =>
     refine oT hF fun hF => ?_
     refine oG fun n22 => W.r ?_
     refine oA 17 (.int .i64 t8) ?_
     refine oA 4 (.int .i64 t8) ?_
     refine oV [(4, .int .i64 t8)] (n22 (oY (q15 (q14 (q9 (q5 (q2 ?_)))))))
     exact lZ hF [.tmp 4] [.int .i64 t8] (rT res_nil)
    | false =>
     refine oU hF fun hF => ?_
     refine oZ (n15 (n14 (W.r ?_)))
     refine oI 18 .i64 hF fun t18 hF => ?_
     refine oA 8 (.int .i64 t18) ?_
     refine oV [(0, t0), (1, .int .i64 t1), (7, .int .i64 t7), (8, .int .i64 t18)] (n9 ?_)
     exact gW _ (ih9 _ _ hF)
   | false =>
    refine oU hF fun hF => ?_
    refine W.exit (by kernel_rfl) ?_
    refine e13 (e9 ?_)
    refine s5 (by kernel_rfl) ?_
    exact gW _ (J6 _ hF)
 exact gW _ (L9 _ _ _ hF)
noncomputable def snap_chunk (_ : CallF) (_ : Nat) (t0 : Bytes) (h : AHeap) : R :=
 lett (if 2048 < (lenS t0) then 2048 else (lenS t0)) fun (t6 : Int) =>
 obind (sliceS t0 0 t6) fun t7 =>
 some (.ret (strA t7), h)
set_option maxHeartbeats 4000000 in
set_option maxRecDepth 20000 in
theorem snap_chunk_ok {call : CallF} (_ : SaysAll Try.prog call) {n : Nat} {t0 : Bytes} {h : AHeap} {rR : ARes} {hR : AHeap} (hF : snap_chunk call n t0 h = some (rR, hR)) : Says Try.prog 37 [strA t0] h rR hR := by
 unfold snap_chunk at hF
 refine sO Try.func37 fun w0 m0 => ?_
 refine wW [(0, strA t0)] ?_
 refine oG fun n1 => W.r ?_
 refine oA 2 (strA ([] : Bytes)) ?_
 refine oV [(0, strA t0)] (n1 ?_)
 refine oG fun n2 => W.r ?_
 refine oA 3 (strA t0) ?_
 refine oA 4 (strA t0) ?_
 refine oA 5 (.int .i64 (lenS t0)) ?_
 refine oI 6 .i64 hF fun t6 hF => ?_
 obtain ⟨t7, e4, hF⟩ := obind_some hF
 refine WL.b (some 7) (strA t7) h (slice_str (P := Try.prog) (h := h) (t := 9) (A := none) (B := (some (.int .i64 t6))) (by kernel_rfl) (.inr ⟨rfl, rfl⟩) (.inl ⟨_, rfl⟩) e4) ?_
 refine oA 2 (strA t7) ?_
 refine oV [(2, strA t7)] (n2 (oY ?_))
 exact lZ hF [.tmp 2] [strA t7] (rT res_nil)
noncomputable def snap_framed (call : CallF) (_ : Nat) (t0 : Bytes) (h : AHeap) : R :=
 callN (call 82 [strA t0] h) fun r7 h_3 =>
 obind (extT 0 r7) fun v8 =>
 obind (avStr v8) fun t8 =>
 obind (extT 1 r7) fun v9 =>
 obind (avInt .i64 v9) fun _ =>
 some (.ret (strA t8), h_3)
set_option maxHeartbeats 4000000 in
set_option maxRecDepth 20000 in
theorem snap_framed_ok {call : CallF} (hc : SaysAll Try.prog call) {n : Nat} {t0 : Bytes} {h : AHeap} {rR : ARes} {hR : AHeap} (hF : snap_framed call n t0 h = some (rR, hR)) : Says Try.prog 65 [strA t0] h rR hR := by
 unfold snap_framed at hF
 refine sO Try.func65 fun w0 m0 => ?_
 refine wW [(0, strA t0)] ?_
 refine oG fun n1 => W.r ?_
 refine oA 2 (strA ([] : Bytes)) ?_
 refine oV [(0, strA t0)] (n1 ?_)
 refine oG fun n2 => W.r ?_
 refine oA 6 (strA t0) ?_
 refine oC hc (some 7) hF fun r7 h_3 hF => ?_
 refine oA 5 r7 ?_
 refine oEs 8 hF fun t8 hF => ?_
 refine oEi 9 hF fun t9 hF => ?_
 refine oA 3 (strA t8) ?_
 refine oA 4 (.int .i64 t9) ?_
 refine oV [(3, strA t8)] (n2 ?_)
 refine oG fun n9 => W.r ?_
 refine oA 10 (strA t8) ?_
 refine oA 2 (strA t8) ?_
 refine oV [(2, strA t8)] (n9 (oY ?_))
 exact lZ hF [.tmp 2] [strA t8] (rT res_nil)
noncomputable def snap_markRight (_ : CallF) (_ : Nat) (t0 : List AV) (h : AHeap) : R :=
 outK (opBox h 39 (some (.agg t0))) fun v1 h_2 =>
 obind (fldP 0 v1) fun t3 =>
 obind (ldCell h_2 t3) fun v4 =>
 obind (avInt .i64 v4) fun t4 =>
 lett (decide (t4 ≥ 1)) fun (t5 : Bool) =>
 lett (fun (t10 : Bool) (h_9 : AHeap) =>
  lett (fun (t15 : Bool) (h_12 : AHeap) =>
   lett (fun (t20 : Bool) (h_15 : AHeap) =>
    some (.ret (.bool t20), h_15)) fun j20 =>
   ifB t15
   (
    obind (fldP 1 v1) fun t17 =>
    obind (ldCell h_12 t17) fun v18 =>
    obind (avInt .i64 v18) fun t18 =>
    lett (decide (t18 ≤ 1099511627776)) fun (t19 : Bool) =>
    j20 t19 h_12)
   (
    j20 false h_12)) fun j15 =>
  ifB t10
  (
   obind (fldP 1 v1) fun t12 =>
   obind (ldCell h_9 t12) fun v13 =>
   obind (avInt .i64 v13) fun t13 =>
   lett (decide (t13 ≥ 0)) fun (t14 : Bool) =>
   j15 t14 h_9)
  (
   j15 false h_9)) fun j10 =>
 ifB t5
 (
  obind (fldP 0 v1) fun t7 =>
  obind (ldCell h_2 t7) fun v8 =>
  obind (avInt .i64 v8) fun t8 =>
  lett (decide (t8 ≤ 1048576)) fun (t9 : Bool) =>
  j10 t9 h_2)
 (
  j10 false h_2)
set_option maxHeartbeats 4000000 in
set_option maxRecDepth 20000 in
theorem snap_markRight_ok {call : CallF} (_ : SaysAll Try.prog call) {n : Nat} {t0 : List AV} {h : AHeap} {rR : ARes} {hR : AHeap} (hF : snap_markRight call n t0 h = some (rR, hR)) : Says Try.prog 41 [.agg t0] h rR hR := by
 unfold snap_markRight at hF
 refine sO Try.func41 fun w0 m0 => ?_
 refine wW [(0, .agg t0)] ?_
 refine oG fun n1 => W.r ?_
 refine oK 1 hF fun v1 h_2 hF => ?_
 refine oA 2 (.bool false) ?_
 refine oV [(1, v1)] (n1 ?_)
 refine W.s (fun K4 n4 e4 q4 p4 => ?_)
 refine W.r ?_
 refine oF 3 39 0 hF fun t3 hF => ?_
 refine oLi 4 3 hF fun t4 hF => ?_
 refine oB 5 hF fun t5 hF => ?_
 refine oA 6 (.bool t5) ?_
 obtain ⟨j10, e10, hF⟩ := lett_some hF
 have J11 : ∀ (t10 : Bool) (h_9 : AHeap), j10 t10 h_9 = some (rR, hR) → WL Try.prog w0 m0 (Func.ntmps Try.f41) (Code.ops (Code.p1 (Code.p2 (codeOf Try.f41)))) 8 K4 [(1, v1), (10, .bool t10)] [] h_9 := by
  intro t10 h_9 hF
  rw [e10] at hF
  refine oA 11 (.bool t10) ?_
  obtain ⟨j15, e13, hF⟩ := lett_some hF
  have J14 : ∀ (t15 : Bool) (h_12 : AHeap), j15 t15 h_12 = some (rR, hR) → WL Try.prog w0 m0 (Func.ntmps Try.f41) (Code.ops (Code.p1 (Code.p2 (codeOf Try.f41)))) 13 K4 [(1, v1), (15, .bool t15)] [] h_12 := by
   intro t15 h_12 hF
   rw [e13] at hF
   refine oA 16 (.bool t15) ?_
   obtain ⟨j20, e16, hF⟩ := lett_some hF
   have J17 : ∀ (t20 : Bool) (h_15 : AHeap), j20 t20 h_15 = some (rR, hR) → WL Try.prog w0 m0 (Func.ntmps Try.f41) (Code.ops (Code.p1 (Code.p2 (codeOf Try.f41)))) 18 K4 [(20, .bool t20)] [] h_15 := by
    intro t20 h_15 hF
    rw [e16] at hF
    refine oA 2 (.bool t20) ?_
    refine oV [(2, .bool t20)] (n4 (oY ?_))
    exact lZ hF [.tmp 2] [.bool t20] (rT res_nil)
   cases t15 with
   | true =>
    replace hF := ifB_t hF
    refine oF 17 39 1 hF fun t17 hF => ?_
    refine oLi 18 3 hF fun t18 hF => ?_
    refine oB 19 hF fun t19 hF => ?_
    refine oA 20 (.bool t19) ?_
    exact lW _ (J17 _ _ hF)
   | false =>
    replace hF := ifB_f hF
    refine WL.o (some 17) ?_
    refine WL.o (some 18) ?_
    refine WL.o (some 19) ?_
    refine oA 20 (.bool false) ?_
    exact lW _ (J17 _ _ hF)
  cases t10 with
  | true =>
   replace hF := ifB_t hF
   refine oF 12 39 1 hF fun t12 hF => ?_
   refine oLi 13 3 hF fun t13 hF => ?_
   refine oB 14 hF fun t14 hF => ?_
   refine oA 15 (.bool t14) ?_
   exact lW _ (J14 _ _ hF)
  | false =>
   replace hF := ifB_f hF
   refine WL.o (some 12) ?_
   refine WL.o (some 13) ?_
   refine WL.o (some 14) ?_
   refine oA 15 (.bool false) ?_
   exact lW _ (J14 _ _ hF)
 cases t5 with
 | true =>
  replace hF := ifB_t hF
  refine oF 7 39 0 hF fun t7 hF => ?_
  refine oLi 8 3 hF fun t8 hF => ?_
  refine oB 9 hF fun t9 hF => ?_
  refine oA 10 (.bool t9) ?_
  exact lW _ (J11 _ _ hF)
 | false =>
  replace hF := ifB_f hF
  refine WL.o (some 7) ?_
  refine WL.o (some 8) ?_
  refine WL.o (some 9) ?_
  refine oA 10 (.bool false) ?_
  exact lW _ (J11 _ _ hF)
noncomputable def snap_newest (_ : CallF) (_ : Nat) (t0 : List AV) (h : AHeap) : R :=
 outK (opBox h 110 (some (.agg t0))) fun v1 h_2 =>
 obind (idxA 2 5 v1 1) fun t3 =>
 obind (fldP 1 t3) fun t4 =>
 obind (ldCell h_2 t4) fun v5 =>
 obind (avBool v5) fun t5 =>
 lett (fun (t22 : Bool) (h_10 : AHeap) =>
  ifB t22
  (
   some (.ret (.int .i64 1), h_10))
  (
   some (.ret (.int .i64 0), h_10))) fun j22 =>
 ifB t5
 (
  obind (idxA 2 5 v1 0) fun t7 =>
  obind (fldP 1 t7) fun t8 =>
  obind (ldCell h_2 t8) fun v9 =>
  obind (avBool v9) fun t9 =>
  lett (!t9) fun (t10 : Bool) =>
  lett (fun (t21 : Bool) (h_20 : AHeap) =>
   j22 t21 h_20) fun j21 =>
  ifB t10
  (
   j21 true h_2)
  (
   obind (idxA 2 5 v1 1) fun t12 =>
   obind (fldP 2 t12) fun t13 =>
   obind (fldP 0 t13) fun t14 =>
   obind (ldCell h_2 t14) fun v15 =>
   obind (avInt .i64 v15) fun t15 =>
   obind (idxA 2 5 v1 0) fun t16 =>
   obind (fldP 2 t16) fun t17 =>
   obind (fldP 0 t17) fun t18 =>
   obind (ldCell h_2 t18) fun v19 =>
   obind (avInt .i64 v19) fun t19 =>
   lett (decide (t15 > t19)) fun (t20 : Bool) =>
   j21 t20 h_2))
 (
  j22 false h_2)
set_option maxHeartbeats 4000000 in
set_option maxRecDepth 20000 in
theorem snap_newest_ok {call : CallF} (_ : SaysAll Try.prog call) {n : Nat} {t0 : List AV} {h : AHeap} {rR : ARes} {hR : AHeap} (hF : snap_newest call n t0 h = some (rR, hR)) : Says Try.prog 40 [.agg t0] h rR hR := by
 unfold snap_newest at hF
 refine sO Try.func40 fun w0 m0 => ?_
 refine wW [(0, .agg t0)] ?_
 refine oG fun n1 => W.r ?_
 refine oK 1 hF fun v1 h_2 hF => ?_
 refine oA 2 (.int .i64 0) ?_
 refine oV [(1, v1)] (n1 ?_)
 refine oH fun n4 q4 => ?_
 refine W.s (fun K5 n5 e5 q5 p5 => ?_)
 refine W.r ?_
 refine oQ 3 110 109 .i64 hF fun t3 hF => ?_
 refine oF 4 109 1 hF fun t4 hF => ?_
 refine oLb 5 4 hF fun t5 hF => ?_
 refine oA 6 (.bool t5) ?_
 obtain ⟨j22, e11, hF⟩ := lett_some hF
 have J12 : ∀ (t22 : Bool) (h_10 : AHeap), j22 t22 h_10 = some (rR, hR) → WL Try.prog w0 m0 (Func.ntmps Try.f40) (Code.ops (Code.p1 (Code.p1 (Code.p2 (codeOf Try.f40))))) 20 K5 [(22, .bool t22)] [] h_10 := by
  intro t22 h_10 hF
  rw [e11] at hF
  refine oV [(22, .bool t22)] (n5 ?_)
  cases t22 with
  | true =>
   refine oT hF fun hF => ?_
   refine oG fun n13 => W.r ?_
   refine oA 2 (.int .i64 1) ?_
   refine oV [(2, .int .i64 1)] (n13 (oY (q4 ?_)))
   exact lZ hF [.tmp 2] [.int .i64 1] (rT res_nil)
  | false =>
   refine oU hF fun hF => ?_
   refine oZ (n4 ?_)
   refine oG fun n14 => W.r ?_
   refine oA 2 (.int .i64 0) ?_
   refine oV [(2, .int .i64 0)] (n14 (oY ?_))
   exact lZ hF [.tmp 2] [.int .i64 0] (rT res_nil)
 cases t5 with
 | true =>
  replace hF := ifB_t hF
  refine oQ 7 110 109 .i64 hF fun t7 hF => ?_
  refine oF 8 109 1 hF fun t8 hF => ?_
  refine oLb 9 4 hF fun t9 hF => ?_
  refine oB 10 hF fun t10 hF => ?_
  refine oA 11 (.bool t10) ?_
  obtain ⟨j21, e21, hF⟩ := lett_some hF
  have J22 : ∀ (t21 : Bool) (h_20 : AHeap), j21 t21 h_20 = some (rR, hR) → WL Try.prog w0 m0 (Func.ntmps Try.f40) (Code.ops (Code.p1 (Code.p1 (Code.p2 (codeOf Try.f40))))) 19 K5 [(6, .bool true), (21, .bool t21)] [] h_20 := by
   intro t21 h_20 hF
   rw [e21] at hF
   refine oA 22 (.bool t21) ?_
   exact lW _ (J12 _ _ hF)
  cases t10 with
  | true =>
   replace hF := ifB_t hF
   refine WL.o (some 12) ?_
   refine WL.o (some 13) ?_
   refine WL.o (some 14) ?_
   refine WL.o (some 15) ?_
   refine WL.o (some 16) ?_
   refine WL.o (some 17) ?_
   refine WL.o (some 18) ?_
   refine WL.o (some 19) ?_
   refine WL.o (some 20) ?_
   refine oA 21 (.bool true) ?_
   exact lW _ (J22 _ _ hF)
  | false =>
   replace hF := ifB_f hF
   refine oQ 12 110 109 .i64 hF fun t12 hF => ?_
   refine oF 13 109 2 hF fun t13 hF => ?_
   refine oF 14 39 0 hF fun t14 hF => ?_
   refine oLi 15 3 hF fun t15 hF => ?_
   refine oQ 16 110 109 .i64 hF fun t16 hF => ?_
   refine oF 17 109 2 hF fun t17 hF => ?_
   refine oF 18 39 0 hF fun t18 hF => ?_
   refine oLi 19 3 hF fun t19 hF => ?_
   refine oB 20 hF fun t20 hF => ?_
   refine oA 21 (.bool t20) ?_
   exact lW _ (J22 _ _ hF)
 | false =>
  replace hF := ifB_f hF
  refine WL.o (some 7) ?_
  refine WL.o (some 8) ?_
  refine WL.o (some 9) ?_
  refine WL.o (some 10) ?_
  refine WL.o (some 11) ?_
  refine WL.o (some 12) ?_
  refine WL.o (some 13) ?_
  refine WL.o (some 14) ?_
  refine WL.o (some 15) ?_
  refine WL.o (some 16) ?_
  refine WL.o (some 17) ?_
  refine WL.o (some 18) ?_
  refine WL.o (some 19) ?_
  refine WL.o (some 20) ?_
  refine WL.o (some 21) ?_
  refine oA 22 (.bool false) ?_
  exact lW _ (J12 _ _ hF)
noncomputable def snap_bytesOf_L0b (call : CallF) (h_2 : AHeap) (k37 : AHeap → R) (self : Bytes → AHeap → R) (t1_44 : Bytes) (h_45 : AHeap) : R :=
 lett (!eqS t1_44 ([] : Bytes)) fun (t25 : Bool) =>
 ifB t25
 (
  callN (call 37 [strA t1_44] h_45) fun r27 h_51 =>
  obind (avStr r27) fun t27 =>
  callN (call 65 [strA t27] h_51) fun r29 h_55 =>
  obind (avStr r29) fun t29 =>
  callN (call 34 [(newP h_2), strA t29] h_55) fun _ h_58 =>
  obind (sliceS t1_44 (lenS t27) (lenS t1_44)) fun t34 =>
  self t34 h_58)
 (
  k37 h_45)
noncomputable def snap_bytesOf_L0 (call : CallF) (h_2 : AHeap) (k37 : AHeap → R) : Nat → Bytes → AHeap → R := iterR (fun _ _ => none) (snap_bytesOf_L0b call h_2 k37)
theorem snap_bytesOf_L0_s (call : CallF) (h_2 : AHeap) (k37 : AHeap → R) (m : Nat) : snap_bytesOf_L0 call h_2 k37 (m + 1) = snap_bytesOf_L0b call h_2 k37 (snap_bytesOf_L0 call h_2 k37 m) := rfl
noncomputable def snap_bytesOf (call : CallF) (n : Nat) (t0 : List AV) (t1 : Bytes) (h : AHeap) : R :=
 outK (opBox h 39 (some (.agg t0))) fun v2 h_2 =>
 lett (newH h_2 89 [.nilp, .nsl]) fun h_5 =>
 obind (fldP 0 v2) fun t7 =>
 obind (ldCell h_5 t7) fun v8 =>
 obind (avInt .i64 v8) fun t8 =>
 lett (IntKind.u64.wrap t8) fun (t9 : Int) =>
 obind (fldP 1 v2) fun t12 =>
 obind (ldCell h_5 t12) fun v13 =>
 obind (avInt .i64 v13) fun t13 =>
 lett (IntKind.u64.wrap t13) fun (t14 : Int) =>
 lett (IntKind.u64.wrap (lenS t1)) fun (t19 : Int) =>
 callN (call 66 [.int .u64 t9] h_5) fun r10 h_17 =>
 obind (avStr r10) fun t10 =>
 chk (reLoad Try.prog h_17 3 t12 (.int .i64 t13) && (true && true)) <|
 obind (addS ([115, 110, 97, 112, 115, 104, 111, 116] : Bytes) t10) fun t11 =>
 callN (call 66 [.int .u64 t14] h_17) fun r15 h_22 =>
 obind (avStr r15) fun t15 =>
 obind (addS t11 t15) fun t16 =>
 callN (call 66 [.int .u64 t19] h_22) fun r20 h_26 =>
 obind (avStr r20) fun t20 =>
 obind (addS t16 t20) fun t21 =>
 callN (call 65 [strA t21] h_26) fun r22 h_30 =>
 obind (avStr r22) fun t22 =>
 callN (call 34 [(newP h_2), strA t22] h_30) fun _ h_33 =>
 lett (fun  (h_38 : AHeap) =>
  callN (call 36 [(newP h_2)] h_38) fun r35 h_40 =>
  obind (avStr r35) fun t35 =>
  some (.ret (strA t35), h_40)) fun k37 =>
 snap_bytesOf_L0 call h_2 k37 n t1 h_33
set_option maxHeartbeats 4000000 in
set_option maxRecDepth 20000 in
theorem snap_bytesOf_ok {call : CallF} (hc : SaysAll Try.prog call) {n : Nat} {t0 : List AV} {t1 : Bytes} {h : AHeap} {rR : ARes} {hR : AHeap} (hF : snap_bytesOf call n t0 t1 h = some (rR, hR)) : Says Try.prog 43 [.agg t0, strA t1] h rR hR := by
 unfold snap_bytesOf at hF
 refine sO Try.func43 fun w0 m0 => ?_
 refine wW [(0, .agg t0), (1, strA t1)] ?_
 refine oG fun n1 => W.r ?_
 refine oK 2 hF fun v2 h_2 hF => ?_
 refine oA 4 (strA ([] : Bytes)) ?_
 refine oV [(1, strA t1), (2, v2)] (n1 ?_)
 refine oG fun n4 => W.r ?_
 refine oN 5 hF fun h_5 hF => ?_
 refine oV [(1, strA t1), (2, v2), (5, (newP h_2))] (n4 ?_)
 refine oG fun n7 => ?_
 refine W.draw (by kernel_rfl) (hc.ok w0) (plan := [0, 1, 2, 5, 6, 7, 10, 11, 12, 3, 4, 8, 9, 13, 14, 15, 16]) (by kernel_rfl) (by kernel_rfl) (by kernel_rfl) ?_
 obtain ⟨t7, e8, hF⟩ := obind_some hF
 refine WD.b 0 (some 7) t7 h_5 (field_ptr (P := Try.prog) (h := h_5) (s := 39) (f := 0) (by kernel_rfl) e8) ?_
 replace hF := obind_some hF; obtain ⟨v8, e9, hF⟩ := hF
 replace hF := obind_some hF; obtain ⟨t8, c10, hF⟩ := hF
 have c10 := avInt_some c10
 subst c10
 refine WD.b 1 (some 8) (.int .i64 t8) h_5 (load_cell (P := Try.prog) (h := h_5) (t := 3) (by kernel_rfl) e9) ?_
 obtain ⟨t9, e11, hF⟩ := lett_some hF
 refine WD.val (d := (some 9)) (v := .int .u64 t9) (h' := h_5) (by kernel_rfl) (by kernel_rfl) (val_of (AV.int .u64) e11 (by kernel_rfl)) (k := 0) (by kernel_rfl) (fun e => absurd e (by decide)) (by decide) ?_
 obtain ⟨t12, e12, hF⟩ := obind_some hF
 refine WD.b 0 (some 12) t12 h_5 (field_ptr (P := Try.prog) (h := h_5) (s := 39) (f := 1) (by kernel_rfl) e12) ?_
 replace hF := obind_some hF; obtain ⟨v13, e13, hF⟩ := hF
 replace hF := obind_some hF; obtain ⟨t13, c14, hF⟩ := hF
 have c14 := avInt_some c14
 subst c14
 refine WD.b 1 (some 13) (.int .i64 t13) h_5 (load_cell (P := Try.prog) (h := h_5) (t := 3) (by kernel_rfl) e13) ?_
 obtain ⟨t14, e15, hF⟩ := lett_some hF
 refine WD.val (d := (some 14)) (v := .int .u64 t14) (h' := h_5) (by kernel_rfl) (by kernel_rfl) (val_of (AV.int .u64) e15 (by kernel_rfl)) (k := 0) (by kernel_rfl) (fun e => absurd e (by decide)) (by decide) ?_
 refine WD.a 0 (some 17) (strA t1) h_5 ?_
 refine WD.a 0 (some 18) (.int .i64 (lenS t1)) h_5 ?_
 obtain ⟨t19, e16, hF⟩ := lett_some hF
 refine WD.val (d := (some 19)) (v := .int .u64 t19) (h' := h_5) (by kernel_rfl) (by kernel_rfl) (val_of (AV.int .u64) e16 (by kernel_rfl)) (k := 0) (by kernel_rfl) (fun e => absurd e (by decide)) (by decide) ?_
 replace hF := callN_some hF; obtain ⟨r10, h_17, e18, hF⟩ := hF
 replace hF := obind_some hF; obtain ⟨t10, c19, hF⟩ := hF
 have c19 := avStr_some c19
 subst c19
 obtain ⟨k20, hF⟩ := chk_some hF
 refine WD.call (d := (some 10)) (by kernel_rfl) (by kernel_rfl) (by kernel_rfl) e18 (k := 2) (by kernel_rfl) (fun _ => (Eq.trans (by kernel_rfl) k20)) (by decide) ?_
 obtain ⟨t11, e21, hF⟩ := obind_some hF
 refine WD.b 0 (some 11) (strA t11) h_17 (add_str (P := Try.prog) (h := h_17) (t := 9) (lit := true) e21) ?_
 replace hF := callN_some hF; obtain ⟨r15, h_22, e23, hF⟩ := hF
 replace hF := obind_some hF; obtain ⟨t15, c24, hF⟩ := hF
 have c24 := avStr_some c24
 subst c24
 refine WD.call (d := (some 15)) (by kernel_rfl) (by kernel_rfl) (by kernel_rfl) e23 (k := 2) (by kernel_rfl) (fun _ => (by kernel_rfl)) (by decide) ?_
 obtain ⟨t16, e25, hF⟩ := obind_some hF
 refine WD.b 0 (some 16) (strA t16) h_22 (add_str (P := Try.prog) (h := h_22) (t := 9) (lit := false) e25) ?_
 replace hF := callN_some hF; obtain ⟨r20, h_26, e27, hF⟩ := hF
 replace hF := obind_some hF; obtain ⟨t20, c28, hF⟩ := hF
 have c28 := avStr_some c28
 subst c28
 refine WD.call (d := (some 20)) (by kernel_rfl) (by kernel_rfl) (by kernel_rfl) e27 (k := 2) (by kernel_rfl) (fun _ => (by kernel_rfl)) (by decide) ?_
 obtain ⟨t21, e29, hF⟩ := obind_some hF
 refine WD.b 0 (some 21) (strA t21) h_26 (add_str (P := Try.prog) (h := h_26) (t := 9) (lit := false) e29) ?_
 replace hF := callN_some hF; obtain ⟨r22, h_30, e31, hF⟩ := hF
 replace hF := obind_some hF; obtain ⟨t22, c32, hF⟩ := hF
 have c32 := avStr_some c32
 subst c32
 refine WD.call (d := (some 22)) (by kernel_rfl) (by kernel_rfl) (by kernel_rfl) e31 (k := 2) (by kernel_rfl) (fun _ => (by kernel_rfl)) (by decide) ?_
 obtain ⟨r23, h_33, e34, hF⟩ := callN_some hF
 refine WD.call (d := (some 23)) (by kernel_rfl) (by kernel_rfl) (by kernel_rfl) e34 (k := 2) (by kernel_rfl) (fun _ => (by kernel_rfl)) (by decide) ?_
 refine WD.nil ?_
 refine gW [(1, strA t1), (5, (newP h_2))] (n7 ?_)
 refine W.s (fun K35 n35 e35 q35 p35 => ?_)
 obtain ⟨k37, e37, hF⟩ := lett_some hF
 have J37 : ∀  (h_38 : AHeap), k37 h_38 = some (rR, hR) → Go w0 m0 (Func.ntmps Try.f43) (K35 .normal) [(5, (newP h_2))] [] h_38 := by
  intro  h_38 hF
  rw [e37] at hF
  refine n35 ?_
  refine oG fun n39 => W.r ?_
  refine oCs hc 35 hF fun t35 h_40 hF => ?_
  refine oA 4 (strA t35) ?_
  refine oV [(4, strA t35)] (n39 (oY ?_))
  exact lZ hF [.tmp 4] [strA t35] (rT res_nil)
 refine W.blockK (by kernel_rfl) (fun K36 n36 s36 o36 q36 p36 => ?_)
 refine W.loopK (by kernel_rfl) (fun I43 K43 b43 n43 e43 q43 p43 => ?_)
 have L43 : ∀ (m : Nat) (t1_44 : Bytes) (h_45 : AHeap), snap_bytesOf_L0 call h_2 k37 m t1_44 h_45 = some (rR, hR) → Go w0 m0 (Func.ntmps Try.f43) I43 [(1, strA t1_44), (5, (newP h_2))] [] h_45 := by
  intro m
  induction m with
  | zero => intro t1_44 h_45 hF; cases hF
  | succ m ih43 =>
   intro t1_44 h_45 hF
   rw [snap_bytesOf_L0_s] at hF; unfold snap_bytesOf_L0b at hF
   refine b43 ?_
   refine W.s (fun K46 n46 e46 q46 p46 => ?_)
   refine oG fun n47 => W.r ?_
   refine oA 24 (strA t1_44) ?_
   refine oB 25 hF fun t25 hF => ?_
   refine oV [(1, strA t1_44), (5, (newP h_2)), (25, .bool t25)] (n47 ?_)
   cases t25 with
   | true =>
    refine oT hF fun hF => ?_
    refine oZ (n46 ?_)
    refine W.blockK (by kernel_rfl) (fun K49 n49 s49 o49 q49 p49 => ?_)
    refine oG fun n50 => W.r ?_
    refine oA 26 (strA t1_44) ?_
    refine oCs hc 27 hF fun t27 h_51 hF => ?_
    refine oA 6 (strA t27) ?_
    refine oV [(1, strA t1_44), (5, (newP h_2)), (6, strA t27)] (n50 ?_)
    refine oG fun n54 => W.r ?_
    refine oA 28 (strA t27) ?_
    refine oCs hc 29 hF fun t29 h_55 hF => ?_
    refine oC hc (some 30) hF fun r30 h_58 hF => ?_
    refine oV [(1, strA t1_44), (5, (newP h_2)), (6, strA t27)] (n54 (W.r ?_))
    refine oA 31 (strA t1_44) ?_
    refine oA 32 (strA t27) ?_
    refine oA 33 (.int .i64 (lenS t27)) ?_
    obtain ⟨t34, e60, hF⟩ := obind_some hF
    refine WL.b (some 34) (strA t34) h_58 (slice_str (P := Try.prog) (h := h_58) (t := 9) (A := (some (.int .i64 (lenS t27)))) (B := none) (by kernel_rfl) (.inl ⟨_, rfl⟩) (.inr ⟨rfl, rfl⟩) e60) ?_
    refine oA 1 (strA t34) ?_
    refine oV [(1, strA t34), (5, (newP h_2))] (n49 (n43 ?_))
    exact gW _ (ih43 _ _ hF)
   | false =>
    refine oU hF fun hF => ?_
    refine W.exit (by kernel_rfl) ?_
    refine e46 (e43 ?_)
    refine s36 (by kernel_rfl) ?_
    exact gW _ (J37 _ hF)
 exact gW _ (L43 _ _ _ hF)
noncomputable def snap_ready (call : CallF) (_ : Nat) (t0 : AV) (h : AHeap) : R :=
 outK (opBin Try.prog h .eql 36 true (some t0) (some AV.nilp)) fun v4 h_4 =>
 obind (avBool v4) fun t4 =>
 ifB t4
 (
  some (.ret (.int .i64 1), h_4))
 (
  callN (call 59 [t0] h_4) fun r6 h_10 =>
  obind (avBool r6) fun t6 =>
  lett (!t6) fun (t7 : Bool) =>
  ifB t7
  (
   some (.ret (.int .i64 40), h_10))
  (
   some (.ret (.int .i64 0), h_10)))
set_option maxHeartbeats 4000000 in
set_option maxRecDepth 20000 in
theorem snap_ready_ok {call : CallF} (hc : SaysAll Try.prog call) {n : Nat} {t0 : AV} {h : AHeap} {rR : ARes} {hR : AHeap} (hF : snap_ready call n t0 h = some (rR, hR)) : Says Try.prog 38 [t0] h rR hR := by
 unfold snap_ready at hF
 refine sO Try.func38 fun w0 m0 => ?_
 refine wW [(0, t0)] ?_
 refine oG fun n1 => W.r ?_
 refine oA 2 (.int .i64 0) ?_
 refine oV [(0, t0)] (n1 ?_)
 refine oH fun n2 q2 => ?_
 refine oG fun n3 => W.r ?_
 refine oA 3 t0 ?_
 replace hF := outK_some hF; obtain ⟨v4, h_4, e5, hF⟩ := hF
 replace hF := obind_some hF; obtain ⟨t4, c6, hF⟩ := hF
 have c6 := avBool_some c6
 subst c6
 refine WL.b (some 4) (.bool t4) h_4 e5 ?_
 refine oV [(0, t0), (4, .bool t4)] (n3 ?_)
 cases t4 with
 | true =>
  refine oT hF fun hF => ?_
  refine oG fun n7 => W.r ?_
  refine oA 2 (.int .i64 1) ?_
  refine oV [(2, .int .i64 1)] (n7 (oY (q2 ?_)))
  exact lZ hF [.tmp 2] [.int .i64 1] (rT res_nil)
 | false =>
  refine oU hF fun hF => ?_
  refine oZ (n2 ?_)
  refine oH fun n8 q8 => ?_
  refine oG fun n9 => W.r ?_
  refine oA 5 t0 ?_
  refine oCb hc 6 hF fun t6 h_10 hF => ?_
  refine oB 7 hF fun t7 hF => ?_
  refine oV [(7, .bool t7)] (n9 ?_)
  cases t7 with
  | true =>
   refine oT hF fun hF => ?_
   refine oG fun n14 => W.r ?_
   refine oA 2 (.int .i64 40) ?_
   refine oV [(2, .int .i64 40)] (n14 (oY (q8 ?_)))
   exact lZ hF [.tmp 2] [.int .i64 40] (rT res_nil)
  | false =>
   refine oU hF fun hF => ?_
   refine oZ (n8 ?_)
   refine oG fun n15 => W.r ?_
   refine oA 2 (.int .i64 0) ?_
   refine oV [(2, .int .i64 0)] (n15 (oY ?_))
   exact lZ hF [.tmp 2] [.int .i64 0] (rT res_nil)
noncomputable def snap_NewInbox (_ : CallF) (_ : Nat)  (h : AHeap) : R :=
 outK (opBox h 98 (some (.agg ([.int .i64 0, .int .i64 0, .int .i64 0, .nsl] : List AV)))) fun v2 h_3 =>
 some (.ret (v2), h_3)
set_option maxHeartbeats 4000000 in
set_option maxRecDepth 20000 in
theorem snap_NewInbox_ok {call : CallF} (_ : SaysAll Try.prog call) {n : Nat}  {h : AHeap} {rR : ARes} {hR : AHeap} (hF : snap_NewInbox call n  h = some (rR, hR)) : Says Try.prog 11 [] h rR hR := by
 unfold snap_NewInbox at hF
 refine sO Try.func11 fun w0 m0 => ?_
 refine wW [] ?_
 refine oG fun n1 => W.r ?_
 refine oA 0 AV.nilp ?_
 refine oV [] (n1 ?_)
 refine oG fun n2 => W.r ?_
 refine oA 1 (.agg ([.int .i64 0, .int .i64 0, .int .i64 0, .nsl] : List AV)) ?_
 refine oK 2 hF fun v2 h_3 hF => ?_
 refine oA 0 v2 ?_
 refine oV [(0, v2)] (n2 (oY ?_))
 exact lZ hF [.tmp 0] [v2] (rT res_nil)
noncomputable def snap_Inbox_Put (_ : CallF) (_ : Nat) (t0 : AV) (t1 : List AV) (h : AHeap) : R :=
 outK (opBox h 35 (some (.agg t1))) fun v3 h_2 =>
 outK (opBin Try.prog h_2 .eql 27 true (some t0) (some AV.nilp)) fun v9 h_6 =>
 obind (avBool v9) fun t9 =>
 lett (fun (t14 : Bool) (h_9 : AHeap) =>
  lett (fun (t19 : Bool) (h_12 : AHeap) =>
   lett (fun (t24 : Bool) (h_15 : AHeap) =>
    lett (fun (t29 : Bool) (h_18 : AHeap) =>
     ifB t29
     (
      some (.ret (.tup [.int .i64 0, strA ([] : Bytes), .bool false]), h_18))
     (
      obind (fldP 4 v3) fun t30 =>
      obind (ldCell h_18 t30) fun v31 =>
      obind (avInt .i64 v31) fun t31 =>
      obind (fldP 5 v3) fun t32 =>
      obind (ldCell h_18 t32) fun v33 =>
      obind (avInt .i64 v33) fun t33 =>
      lett (newH h_18 39 [.int .i64 0, .int .i64 0]) fun h_29 =>
      obind (stRow h_29 2 ([.int .i64 t31, .int .i64 t33] : List AV) (newP h_18)) fun h_31 =>
      lett (fun (t49 : Bool) (h_36 : AHeap) =>
       lett (fun  (h_38 : AHeap) =>
        lett (fun (t79 : Bool) (h_42 : AHeap) =>
         lett (fun  (h_44 : AHeap) =>
          obind (nilC t0) fun t91 =>
          obind (fldP 3 t91) fun t92 =>
          obind (ldCell h_44 t92) fun v93 =>
          obind (lenL v93) fun t94 =>
          obind (nilC t0) fun t96 =>
          obind (fldP 2 t96) fun t97 =>
          obind (ldCell h_44 t97) fun v98 =>
          obind (avInt .i64 v98) fun t98 =>
          lett (decide (t94 < t98)) fun (t99 : Bool) =>
          ifB t99
          (
           obind (nilC t0) fun t101 =>
           obind (fldP 3 t101) fun t102 =>
           obind (ldCell h_44 t102) fun v103 =>
           obind (lenL v103) fun t104 =>
           some (.ret (.tup [.int .i64 t104, strA ([] : Bytes), .bool false]), h_44))
          (
           obind (nilC t0) fun t106 =>
           obind (fldP 2 t106) fun t107 =>
           obind (ldCell h_44 t107) fun v108 =>
           obind (avInt .i64 v108) fun t108 =>
           obind (nilC t0) fun t110 =>
           obind (fldP 3 t110) fun t111 =>
           obind (ldCell h_44 t111) fun v112 =>
           outK (opConv Try.prog h_44 46 9 (some v112)) fun v113 h_69 =>
           obind (avStr v113) fun t113 =>
           chk (true && (reLoad Try.prog h_69 3 t107 (.int .i64 t108) && true)) <|
           some (.ret (.tup [.int .i64 t108, strA t113, .bool true]), h_69))) fun k43 =>
         ifB t79
         (
          obind (nilC t0) fun t82 =>
          obind (fldP 3 t82) fun t83 =>
          obind (ldCell h_42 t83) fun v84 =>
          obind (fldP 12 v3) fun t85 =>
          obind (ldCell h_42 t85) fun v86 =>
          obind (avStr v86) fun t86 =>
          outK (opAppend Try.prog h_42 46 9 v84 (strA t86)) fun v87 h_79 =>
          obind (nilC t0) fun t88 =>
          obind (fldP 3 t88) fun t89 =>
          obind (stRow h_79 1 (AV.cells v87) t89) fun h_83 =>
          k43 h_83)
         (
          k43 h_42)) fun k41 =>
        obind (fldP 10 v3) fun t56 =>
        obind (ldCell h_38 t56) fun v57 =>
        obind (avInt .i64 v57) fun t57 =>
        obind (nilC t0) fun t59 =>
        obind (fldP 3 t59) fun t60 =>
        obind (ldCell h_38 t60) fun v61 =>
        obind (lenL v61) fun t62 =>
        lett ((t57 : Int) == t62) fun (t63 : Bool) =>
        ifB t63
        (
         obind (fldP 12 v3) fun t65 =>
         obind (ldCell h_38 t65) fun v66 =>
         obind (avStr v66) fun t66 =>
         obind (nilC t0) fun t69 =>
         obind (fldP 2 t69) fun t70 =>
         obind (ldCell h_38 t70) fun v71 =>
         obind (avInt .i64 v71) fun t71 =>
         obind (nilC t0) fun t73 =>
         obind (fldP 3 t73) fun t74 =>
         obind (ldCell h_38 t74) fun v75 =>
         obind (lenL v75) fun t76 =>
         lett (IntKind.i64.wrap (t71 - t76)) fun (t77 : Int) =>
         lett (decide ((lenS t66) ≤ t77)) fun (t78 : Bool) =>
         k41 t78 h_38)
        (
         k41 false h_38)) fun k37 =>
       ifB t49
       (
        obind (ldRow h_36 2 (newP h_18)) fun t51 =>
        obind (fldP 11 v3) fun t52 =>
        obind (ldCell h_36 t52) fun v53 =>
        obind (avInt .i64 v53) fun t53 =>
        obind (bldS Try.prog 98 [(0, .agg t51), (1, .int .i64 t53)]) fun t54 =>
        obind (nilC t0) fun t55 =>
        obind (stRow h_36 4 t54 t55) fun h_112 =>
        k37 h_112)
       (
        k37 h_36)) fun k35 =>
      obind (ldRow h_31 2 (newP h_18)) fun t35 =>
      obind (nilC t0) fun t37 =>
      obind (fldP 0 t37) fun t38 =>
      obind (ldRow h_31 2 t38) fun t39 =>
      obind (eqOther Try.prog 39 (.agg t35) (.agg t39)) fun t40 =>
      lett (!t40) fun (t40_119 : Bool) =>
      ifB t40_119
      (
       k35 true h_31)
      (
       obind (fldP 11 v3) fun t42 =>
       obind (ldCell h_31 t42) fun v43 =>
       obind (avInt .i64 v43) fun t43 =>
       obind (nilC t0) fun t45 =>
       obind (fldP 2 t45) fun t46 =>
       obind (ldCell h_31 t46) fun v47 =>
       obind (avInt .i64 v47) fun t47 =>
       lett ((t43 : Int) != t47) fun (t48 : Bool) =>
       k35 t48 h_31))) fun j29 =>
    ifB t24
    (
     j29 true h_15)
    (
     obind (fldP 4 v3) fun t26 =>
     obind (ldCell h_15 t26) fun v27 =>
     obind (avInt .i64 v27) fun t27 =>
     lett (decide (t27 < 1)) fun (t28 : Bool) =>
     j29 t28 h_15)) fun j24 =>
   ifB t19
   (
    j24 true h_12)
   (
    obind (fldP 10 v3) fun t21 =>
    obind (ldCell h_12 t21) fun v22 =>
    obind (avInt .i64 v22) fun t22 =>
    lett (decide (t22 < 0)) fun (t23 : Bool) =>
    j24 t23 h_12)) fun j19 =>
  ifB t14
  (
   j19 true h_9)
  (
   obind (fldP 11 v3) fun t16 =>
   obind (ldCell h_9 t16) fun v17 =>
   obind (avInt .i64 v17) fun t17 =>
   lett (decide (t17 > 262144)) fun (t18 : Bool) =>
   j19 t18 h_9)) fun j14 =>
 ifB t9
 (
  j14 true h_6)
 (
  obind (fldP 11 v3) fun t11 =>
  obind (ldCell h_6 t11) fun v12 =>
  obind (avInt .i64 v12) fun t12 =>
  lett (decide (t12 < 0)) fun (t13 : Bool) =>
  j14 t13 h_6)
set_option maxHeartbeats 4000000 in
set_option maxRecDepth 20000 in
theorem snap_Inbox_Put_ok {call : CallF} (hc : SaysAll Try.prog call) {n : Nat} {t0 : AV} {t1 : List AV} {h : AHeap} {rR : ARes} {hR : AHeap} (hF : snap_Inbox_Put call n t0 t1 h = some (rR, hR)) : Says Try.prog 12 [t0, .agg t1] h rR hR := by
 unfold snap_Inbox_Put at hF
 refine sO Try.func12 fun w0 m0 => ?_
 refine wW [(0, t0), (1, .agg t1)] ?_
 refine oG fun n1 => W.r ?_
 refine oK 3 hF fun v3 h_2 hF => ?_
 refine oA 4 (.int .i64 0) ?_
 refine oA 5 (strA ([] : Bytes)) ?_
 refine oA 6 (.bool false) ?_
 refine oV [(0, t0), (3, v3)] (n1 ?_)
 refine oH fun n4 q4 => ?_
 refine W.s (fun K5 n5 e5 q5 p5 => ?_)
 refine W.r ?_
 refine oA 8 t0 ?_
 replace hF := outK_some hF; obtain ⟨v9, h_6, e7, hF⟩ := hF
 replace hF := obind_some hF; obtain ⟨t9, c8, hF⟩ := hF
 have c8 := avBool_some c8
 subst c8
 refine WL.b (some 9) (.bool t9) h_6 e7 ?_
 refine oA 10 (.bool t9) ?_
 obtain ⟨j14, e10, hF⟩ := lett_some hF
 have J11 : ∀ (t14 : Bool) (h_9 : AHeap), j14 t14 h_9 = some (rR, hR) → WL Try.prog w0 m0 (Func.ntmps Try.f12) (Code.ops (Code.p1 (Code.p1 (Code.p2 (codeOf Try.f12))))) 7 K5 [(0, t0), (3, v3), (14, .bool t14)] [] h_9 := by
  intro t14 h_9 hF
  rw [e10] at hF
  refine oA 15 (.bool t14) ?_
  obtain ⟨j19, e13, hF⟩ := lett_some hF
  have J14 : ∀ (t19 : Bool) (h_12 : AHeap), j19 t19 h_12 = some (rR, hR) → WL Try.prog w0 m0 (Func.ntmps Try.f12) (Code.ops (Code.p1 (Code.p1 (Code.p2 (codeOf Try.f12))))) 12 K5 [(0, t0), (3, v3), (19, .bool t19)] [] h_12 := by
   intro t19 h_12 hF
   rw [e13] at hF
   refine oA 20 (.bool t19) ?_
   obtain ⟨j24, e16, hF⟩ := lett_some hF
   have J17 : ∀ (t24 : Bool) (h_15 : AHeap), j24 t24 h_15 = some (rR, hR) → WL Try.prog w0 m0 (Func.ntmps Try.f12) (Code.ops (Code.p1 (Code.p1 (Code.p2 (codeOf Try.f12))))) 17 K5 [(0, t0), (3, v3), (24, .bool t24)] [] h_15 := by
    intro t24 h_15 hF
    rw [e16] at hF
    refine oA 25 (.bool t24) ?_
    obtain ⟨j29, e19, hF⟩ := lett_some hF
    have J20 : ∀ (t29 : Bool) (h_18 : AHeap), j29 t29 h_18 = some (rR, hR) → WL Try.prog w0 m0 (Func.ntmps Try.f12) (Code.ops (Code.p1 (Code.p1 (Code.p2 (codeOf Try.f12))))) 22 K5 [(0, t0), (3, v3), (29, .bool t29)] [] h_18 := by
     intro t29 h_18 hF
     rw [e19] at hF
     refine oV [(0, t0), (3, v3), (29, .bool t29)] (n5 ?_)
     cases t29 with
     | true =>
      refine oT hF fun hF => ?_
      refine oG fun n21 => W.r ?_
      refine oA 4 (.int .i64 0) ?_
      refine oA 5 (strA ([] : Bytes)) ?_
      refine oA 6 (.bool false) ?_
      refine oV [(4, .int .i64 0), (5, strA ([] : Bytes)), (6, .bool false)] (n21 (oY (q4 ?_)))
      exact lZ hF [.tmp 4, .tmp 5, .tmp 6] [.int .i64 0, strA ([] : Bytes), .bool false] (rT (rT (rT res_nil)))
     | false =>
      refine oU hF fun hF => ?_
      refine oZ (n4 ?_)
      refine oG fun n22 => W.r ?_
      refine oF 30 35 4 hF fun t30 hF => ?_
      refine oLi 31 3 hF fun t31 hF => ?_
      refine oF 32 35 5 hF fun t32 hF => ?_
      refine oLi 33 3 hF fun t33 hF => ?_
      refine oA 34 (.agg ([.int .i64 t31, .int .i64 t33] : List AV)) ?_
      refine oN 7 hF fun h_29 hF => ?_
      refine oW 39 (.agg ([.int .i64 t31, .int .i64 t33] : List AV)) hF fun h_31 hF => ?_
      refine oV [(0, t0), (3, v3), (7, (newP h_18))] (n22 ?_)
      refine W.s (fun K33 n33 e33 q33 p33 => ?_)
      refine W.s (fun K34 n34 e34 q34 p34 => ?_)
      obtain ⟨k35, e35, hF⟩ := lett_some hF
      have J35 : ∀ (t49 : Bool) (h_36 : AHeap), k35 t49 h_36 = some (rR, hR) → Go w0 m0 (Func.ntmps Try.f12) (K34 .normal) [(0, t0), (3, v3), (7, (newP h_18)), (49, .bool t49)] [] h_36 := by
       intro t49 h_36 hF
       rw [e35] at hF
       refine n34 ?_
       obtain ⟨k37, e37, hF⟩ := lett_some hF
       have J37 : ∀  (h_38 : AHeap), k37 h_38 = some (rR, hR) → Go w0 m0 (Func.ntmps Try.f12) (K33 .normal) [(0, t0), (3, v3)] [] h_38 := by
        intro  h_38 hF
        rw [e37] at hF
        refine n33 ?_
        refine W.s (fun K39 n39 e39 q39 p39 => ?_)
        refine W.s (fun K40 n40 e40 q40 p40 => ?_)
        obtain ⟨k41, e41, hF⟩ := lett_some hF
        have J41 : ∀ (t79 : Bool) (h_42 : AHeap), k41 t79 h_42 = some (rR, hR) → Go w0 m0 (Func.ntmps Try.f12) (K40 .normal) [(0, t0), (3, v3), (79, .bool t79)] [] h_42 := by
         intro t79 h_42 hF
         rw [e41] at hF
         refine n40 ?_
         obtain ⟨k43, e43, hF⟩ := lett_some hF
         have J43 : ∀  (h_44 : AHeap), k43 h_44 = some (rR, hR) → Go w0 m0 (Func.ntmps Try.f12) (K39 .normal) [(0, t0)] [] h_44 := by
          intro  h_44 hF
          rw [e43] at hF
          refine n39 ?_
          refine oH fun n45 q45 => ?_
          refine oG fun n46 => ?_
          refine W.draw (by kernel_rfl) (hc.ok w0) (plan := [0, 1, 2, 3, 4, 5, 6, 7, 8, 9]) (by kernel_rfl) (by kernel_rfl) (by kernel_rfl) ?_
          refine WD.a 0 (some 90) t0 h_44 ?_
          obtain ⟨t91, e47, hF⟩ := obind_some hF
          refine WD.b 0 (some 91) t91 h_44 (nil_chk (h := h_44) e47) ?_
          obtain ⟨t92, e48, hF⟩ := obind_some hF
          refine WD.b 0 (some 92) t92 h_44 (field_ptr (P := Try.prog) (h := h_44) (s := 98) (f := 2) (by kernel_rfl) e48) ?_
          obtain ⟨v93, e49, hF⟩ := obind_some hF
          refine WD.b 1 (some 93) v93 h_44 (load_cell (P := Try.prog) (h := h_44) (t := 46) (by kernel_rfl) e49) ?_
          obtain ⟨t94, e50, hF⟩ := obind_some hF
          refine WD.b 0 (some 94) (.int .i64 t94) h_44 (len_row (P := Try.prog) (h := h_44) (t := 46) (e' := 5) (by kernel_rfl) e50) ?_
          refine WD.a 0 (some 95) t0 h_44 ?_
          obtain ⟨t96, e51, hF⟩ := obind_some hF
          refine WD.b 0 (some 96) t96 h_44 (nil_chk (h := h_44) e51) ?_
          obtain ⟨t97, e52, hF⟩ := obind_some hF
          refine WD.b 0 (some 97) t97 h_44 (field_ptr (P := Try.prog) (h := h_44) (s := 98) (f := 1) (by kernel_rfl) e52) ?_
          replace hF := obind_some hF; obtain ⟨v98, e53, hF⟩ := hF
          replace hF := obind_some hF; obtain ⟨t98, c54, hF⟩ := hF
          have c54 := avInt_some c54
          subst c54
          refine WD.b 1 (some 98) (.int .i64 t98) h_44 (load_cell (P := Try.prog) (h := h_44) (t := 3) (by kernel_rfl) e53) ?_
          obtain ⟨t99, e55, hF⟩ := lett_some hF
          refine WD.val (d := (some 99)) (v := .bool t99) (h' := h_44) (by kernel_rfl) (by kernel_rfl) (val_of AV.bool e55 (by kernel_rfl)) (k := 0) (by kernel_rfl) (fun e => absurd e (by decide)) (by decide) ?_
          refine WD.nil ?_
          refine gW [(0, t0), (99, .bool t99)] (n46 ?_)
          cases t99 with
          | true =>
           refine oT hF fun hF => ?_
           refine oG fun n56 => W.r ?_
           refine oA 100 t0 ?_
           refine oC0 101 hF fun t101 hF => ?_
           refine oF 102 98 2 hF fun t102 hF => ?_
           refine oL 103 46 hF fun v103 hF => ?_
           refine oM 104 46 5 hF fun t104 hF => ?_
           refine oA 4 (.int .i64 t104) ?_
           refine oA 5 (strA ([] : Bytes)) ?_
           refine oA 6 (.bool false) ?_
           refine oV [(4, .int .i64 t104), (5, strA ([] : Bytes)), (6, .bool false)] (n56 (oY (q45 ?_)))
           exact lZ hF [.tmp 4, .tmp 5, .tmp 6] [.int .i64 t104, strA ([] : Bytes), .bool false] (rT (rT (rT res_nil)))
          | false =>
           refine oU hF fun hF => ?_
           refine oZ (n45 ?_)
           refine oG fun n61 => ?_
           refine W.draw (by kernel_rfl) (hc.ok w0) (plan := [0, 1, 2, 3, 4, 5, 6, 7, 9, 8, 10, 11]) (by kernel_rfl) (by kernel_rfl) (by kernel_rfl) ?_
           refine WD.a 0 (some 105) t0 h_44 ?_
           obtain ⟨t106, e62, hF⟩ := obind_some hF
           refine WD.b 0 (some 106) t106 h_44 (nil_chk (h := h_44) e62) ?_
           obtain ⟨t107, e63, hF⟩ := obind_some hF
           refine WD.b 0 (some 107) t107 h_44 (field_ptr (P := Try.prog) (h := h_44) (s := 98) (f := 1) (by kernel_rfl) e63) ?_
           replace hF := obind_some hF; obtain ⟨v108, e64, hF⟩ := hF
           replace hF := obind_some hF; obtain ⟨t108, c65, hF⟩ := hF
           have c65 := avInt_some c65
           subst c65
           refine WD.b 1 (some 108) (.int .i64 t108) h_44 (load_cell (P := Try.prog) (h := h_44) (t := 3) (by kernel_rfl) e64) ?_
           refine WD.a 0 (some 109) t0 h_44 ?_
           obtain ⟨t110, e66, hF⟩ := obind_some hF
           refine WD.b 0 (some 110) t110 h_44 (nil_chk (h := h_44) e66) ?_
           obtain ⟨t111, e67, hF⟩ := obind_some hF
           refine WD.b 0 (some 111) t111 h_44 (field_ptr (P := Try.prog) (h := h_44) (s := 98) (f := 2) (by kernel_rfl) e67) ?_
           obtain ⟨v112, e68, hF⟩ := obind_some hF
           refine WD.b 1 (some 112) v112 h_44 (load_cell (P := Try.prog) (h := h_44) (t := 46) (by kernel_rfl) e68) ?_
           refine WD.a 0 (some 4) (.int .i64 t108) h_44 ?_
           replace hF := outK_some hF; obtain ⟨v113, h_69, e70, hF⟩ := hF
           replace hF := obind_some hF; obtain ⟨t113, c71, hF⟩ := hF
           have c71 := avStr_some c71
           subst c71
           obtain ⟨k72, hF⟩ := chk_some hF
           refine WD.val (d := (some 113)) (v := strA t113) (h' := h_69) (by kernel_rfl) (by kernel_rfl) (Eq.trans (by kernel_rfl) e70) (k := 2) (by kernel_rfl) (fun _ => (Eq.trans (by kernel_rfl) k72)) (by decide) ?_
           refine WD.a 0 (some 5) (strA t113) h_69 ?_
           refine WD.a 0 (some 6) (.bool true) h_69 ?_
           refine WD.nil ?_
           refine gW [(4, .int .i64 t108), (5, strA t113), (6, .bool true)] (n61 (oY ?_))
           exact lZ hF [.tmp 4, .tmp 5, .tmp 6] [.int .i64 t108, strA t113, .bool true] (rT (rT (rT res_nil)))
         cases t79 with
         | true =>
          refine oT hF fun hF => ?_
          refine W.draw (by kernel_rfl) (hc.ok w0) (plan := [0, 1, 2, 3, 4, 5, 6, 7, 8, 9, 10]) (by kernel_rfl) (by kernel_rfl) (by kernel_rfl) ?_
          refine WD.a 0 (some 80) t0 h_42 ?_
          refine WD.a 0 (some 81) t0 h_42 ?_
          obtain ⟨t82, e73, hF⟩ := obind_some hF
          refine WD.b 0 (some 82) t82 h_42 (nil_chk (h := h_42) e73) ?_
          obtain ⟨t83, e74, hF⟩ := obind_some hF
          refine WD.b 0 (some 83) t83 h_42 (field_ptr (P := Try.prog) (h := h_42) (s := 98) (f := 2) (by kernel_rfl) e74) ?_
          obtain ⟨v84, e75, hF⟩ := obind_some hF
          refine WD.b 1 (some 84) v84 h_42 (load_cell (P := Try.prog) (h := h_42) (t := 46) (by kernel_rfl) e75) ?_
          obtain ⟨t85, e76, hF⟩ := obind_some hF
          refine WD.b 0 (some 85) t85 h_42 (field_ptr (P := Try.prog) (h := h_42) (s := 35) (f := 12) (by kernel_rfl) e76) ?_
          replace hF := obind_some hF; obtain ⟨v86, e77, hF⟩ := hF
          replace hF := obind_some hF; obtain ⟨t86, c78, hF⟩ := hF
          have c78 := avStr_some c78
          subst c78
          refine WD.b 1 (some 86) (strA t86) h_42 (load_cell (P := Try.prog) (h := h_42) (t := 9) (by kernel_rfl) e77) ?_
          obtain ⟨v87, h_79, e80, hF⟩ := outK_some hF
          refine WD.val (d := (some 87)) (v := v87) (h' := h_79) (by kernel_rfl) (by kernel_rfl) (Eq.trans (by kernel_rfl) e80) (k := 2) (by kernel_rfl) (fun _ => (by kernel_rfl)) (by decide) ?_
          obtain ⟨t88, e81, hF⟩ := obind_some hF
          refine WD.b 0 (some 88) t88 h_79 (nil_chk (h := h_79) e81) ?_
          obtain ⟨t89, e82, hF⟩ := obind_some hF
          refine WD.b 0 (some 89) t89 h_79 (field_ptr (P := Try.prog) (h := h_79) (s := 98) (f := 2) (by kernel_rfl) e82) ?_
          obtain ⟨h_83, e84, hF⟩ := obind_some hF
          refine WD.eff (h' := h_83) (by kernel_rfl) (by kernel_rfl) (Eq.trans (by kernel_rfl) (store_row (P := Try.prog) (h := h_79) (t := 46) (v := v87) (by kernel_rfl) (by kernel_rfl) e84)) (k := 2) (by kernel_rfl) (fun _ => (by kernel_rfl)) (by decide) ?_
          refine WD.nil ?_
          refine gW [(0, t0)] ?_
          exact gW _ (J43 _ hF)
         | false =>
          refine oU hF fun hF => ?_
          refine oZ ?_
          exact gW _ (J43 _ hF)
        refine W.draw (by kernel_rfl) (hc.ok w0) (plan := [0, 1, 2, 3, 4, 5, 6, 7, 8, 9, 10, 11, 12, 13, 14, 15, 16, 17, 18, 19, 20, 21, 22, 23]) (by kernel_rfl) (by kernel_rfl) (by kernel_rfl) ?_
        obtain ⟨t56, e85, hF⟩ := obind_some hF
        refine WD.b 0 (some 56) t56 h_38 (field_ptr (P := Try.prog) (h := h_38) (s := 35) (f := 10) (by kernel_rfl) e85) ?_
        replace hF := obind_some hF; obtain ⟨v57, e86, hF⟩ := hF
        replace hF := obind_some hF; obtain ⟨t57, c87, hF⟩ := hF
        have c87 := avInt_some c87
        subst c87
        refine WD.b 1 (some 57) (.int .i64 t57) h_38 (load_cell (P := Try.prog) (h := h_38) (t := 3) (by kernel_rfl) e86) ?_
        refine WD.a 0 (some 58) t0 h_38 ?_
        obtain ⟨t59, e88, hF⟩ := obind_some hF
        refine WD.b 0 (some 59) t59 h_38 (nil_chk (h := h_38) e88) ?_
        obtain ⟨t60, e89, hF⟩ := obind_some hF
        refine WD.b 0 (some 60) t60 h_38 (field_ptr (P := Try.prog) (h := h_38) (s := 98) (f := 2) (by kernel_rfl) e89) ?_
        obtain ⟨v61, e90, hF⟩ := obind_some hF
        refine WD.b 1 (some 61) v61 h_38 (load_cell (P := Try.prog) (h := h_38) (t := 46) (by kernel_rfl) e90) ?_
        obtain ⟨t62, e91, hF⟩ := obind_some hF
        refine WD.b 0 (some 62) (.int .i64 t62) h_38 (len_row (P := Try.prog) (h := h_38) (t := 46) (e' := 5) (by kernel_rfl) e91) ?_
        obtain ⟨t63, e92, hF⟩ := lett_some hF
        refine WD.val (d := (some 63)) (v := .bool t63) (h' := h_38) (by kernel_rfl) (by kernel_rfl) (val_of AV.bool e92 (by kernel_rfl)) (k := 0) (by kernel_rfl) (fun e => absurd e (by decide)) (by decide) ?_
        refine WD.a 0 (some 64) (.bool t63) h_38 ?_
        cases t63 with
        | true =>
         replace hF := ifB_t hF
         obtain ⟨t65, e93, hF⟩ := obind_some hF
         refine WD.b 0 (some 65) t65 h_38 (field_ptr (P := Try.prog) (h := h_38) (s := 35) (f := 12) (by kernel_rfl) e93) ?_
         replace hF := obind_some hF; obtain ⟨v66, e94, hF⟩ := hF
         replace hF := obind_some hF; obtain ⟨t66, c95, hF⟩ := hF
         have c95 := avStr_some c95
         subst c95
         refine WD.b 1 (some 66) (strA t66) h_38 (load_cell (P := Try.prog) (h := h_38) (t := 9) (by kernel_rfl) e94) ?_
         refine WD.a 0 (some 67) (.int .i64 (lenS t66)) h_38 ?_
         refine WD.a 0 (some 68) t0 h_38 ?_
         obtain ⟨t69, e96, hF⟩ := obind_some hF
         refine WD.b 0 (some 69) t69 h_38 (nil_chk (h := h_38) e96) ?_
         obtain ⟨t70, e97, hF⟩ := obind_some hF
         refine WD.b 0 (some 70) t70 h_38 (field_ptr (P := Try.prog) (h := h_38) (s := 98) (f := 1) (by kernel_rfl) e97) ?_
         replace hF := obind_some hF; obtain ⟨v71, e98, hF⟩ := hF
         replace hF := obind_some hF; obtain ⟨t71, c99, hF⟩ := hF
         have c99 := avInt_some c99
         subst c99
         refine WD.b 1 (some 71) (.int .i64 t71) h_38 (load_cell (P := Try.prog) (h := h_38) (t := 3) (by kernel_rfl) e98) ?_
         refine WD.a 0 (some 72) t0 h_38 ?_
         obtain ⟨t73, e100, hF⟩ := obind_some hF
         refine WD.b 0 (some 73) t73 h_38 (nil_chk (h := h_38) e100) ?_
         obtain ⟨t74, e101, hF⟩ := obind_some hF
         refine WD.b 0 (some 74) t74 h_38 (field_ptr (P := Try.prog) (h := h_38) (s := 98) (f := 2) (by kernel_rfl) e101) ?_
         obtain ⟨v75, e102, hF⟩ := obind_some hF
         refine WD.b 1 (some 75) v75 h_38 (load_cell (P := Try.prog) (h := h_38) (t := 46) (by kernel_rfl) e102) ?_
         obtain ⟨t76, e103, hF⟩ := obind_some hF
         refine WD.b 0 (some 76) (.int .i64 t76) h_38 (len_row (P := Try.prog) (h := h_38) (t := 46) (e' := 5) (by kernel_rfl) e103) ?_
         obtain ⟨t77, e104, hF⟩ := lett_some hF
         refine WD.val (d := (some 77)) (v := .int .i64 t77) (h' := h_38) (by kernel_rfl) (by kernel_rfl) (val_of (AV.int .i64) e104 (by kernel_rfl)) (k := 0) (by kernel_rfl) (fun e => absurd e (by decide)) (by decide) ?_
         obtain ⟨t78, e105, hF⟩ := lett_some hF
         refine WD.val (d := (some 78)) (v := .bool t78) (h' := h_38) (by kernel_rfl) (by kernel_rfl) (val_of AV.bool e105 (by kernel_rfl)) (k := 0) (by kernel_rfl) (fun e => absurd e (by decide)) (by decide) ?_
         refine WD.a 0 (some 79) (.bool t78) h_38 ?_
         refine WD.nil ?_
         exact gW _ (J41 _ _ hF)
        | false =>
         replace hF := ifB_f hF
         refine oD 0 (some 65) ?_
         refine oD 1 (some 66) ?_
         refine oD 0 (some 67) ?_
         refine oD 0 (some 68) ?_
         refine oD 0 (some 69) ?_
         refine oD 0 (some 70) ?_
         refine oD 1 (some 71) ?_
         refine oD 0 (some 72) ?_
         refine oD 0 (some 73) ?_
         refine oD 0 (some 74) ?_
         refine oD 1 (some 75) ?_
         refine oD 0 (some 76) ?_
         refine oD 0 (some 77) ?_
         refine oD 0 (some 78) ?_
         refine WD.a 0 (some 79) (.bool false) h_38 ?_
         refine WD.nil ?_
         exact gW _ (J41 _ _ hF)
       cases t49 with
       | true =>
        refine oT hF fun hF => ?_
        refine W.r ?_
        refine oA 50 t0 ?_
        refine oR 51 39 hF fun t51 hF => ?_
        refine oF 52 35 11 hF fun t52 hF => ?_
        refine oLi 53 3 hF fun t53 hF => ?_
        obtain ⟨t54, e110, hF⟩ := obind_some hF
        refine WL.val (d := (some 54)) (v := .agg t54) (h' := h_36) (by kernel_rfl) (by kernel_rfl) (bld_ok (by kernel_rfl) e110) ?_
        refine oC0 55 hF fun t55 hF => ?_
        refine oW 98 (.agg t54) hF fun h_112 hF => ?_
        refine oV [(0, t0), (3, v3)] ?_
        exact gW _ (J37 _ hF)
       | false =>
        refine oU hF fun hF => ?_
        refine oZ ?_
        exact gW _ (J37 _ hF)
      refine W.draw (by kernel_rfl) (hc.ok w0) (plan := [0, 1, 2, 3, 4, 5, 6, 7, 8, 9, 10, 11, 12, 13, 14]) (by kernel_rfl) (by kernel_rfl) (by kernel_rfl) ?_
      obtain ⟨t35, e114, hF⟩ := obind_some hF
      refine WD.b 1 (some 35) (.agg t35) h_31 (load_row (P := Try.prog) (h := h_31) (t := 39) (by kernel_rfl) (by kernel_rfl) e114) ?_
      refine WD.a 0 (some 36) t0 h_31 ?_
      obtain ⟨t37, e115, hF⟩ := obind_some hF
      refine WD.b 0 (some 37) t37 h_31 (nil_chk (h := h_31) e115) ?_
      obtain ⟨t38, e116, hF⟩ := obind_some hF
      refine WD.b 0 (some 38) t38 h_31 (field_ptr (P := Try.prog) (h := h_31) (s := 98) (f := 0) (by kernel_rfl) e116) ?_
      obtain ⟨t39, e117, hF⟩ := obind_some hF
      refine WD.b 1 (some 39) (.agg t39) h_31 (load_row (P := Try.prog) (h := h_31) (t := 39) (by kernel_rfl) (by kernel_rfl) e117) ?_
      obtain ⟨t40, e118, hF⟩ := obind_some hF
      obtain ⟨t40_119, e120, hF⟩ := lett_some hF
      refine WD.val (d := (some 40)) (v := .bool t40_119) (h' := h_31) (by kernel_rfl) (by kernel_rfl) (val_of AV.bool e120 (Eq.trans (by kernel_rfl) (neq_other (P := Try.prog) (h := h_31) (t := 39) (lit := false) (by kernel_rfl) e118))) (k := 0) (by kernel_rfl) (fun e => absurd e (by decide)) (by decide) ?_
      refine WD.a 0 (some 41) (.bool t40_119) h_31 ?_
      cases t40_119 with
      | true =>
       replace hF := ifB_t hF
       refine oD 0 (some 42) ?_
       refine oD 1 (some 43) ?_
       refine oD 0 (some 44) ?_
       refine oD 0 (some 45) ?_
       refine oD 0 (some 46) ?_
       refine oD 1 (some 47) ?_
       refine oD 0 (some 48) ?_
       refine WD.a 0 (some 49) (.bool true) h_31 ?_
       refine WD.nil ?_
       exact gW _ (J35 _ _ hF)
      | false =>
       replace hF := ifB_f hF
       obtain ⟨t42, e121, hF⟩ := obind_some hF
       refine WD.b 0 (some 42) t42 h_31 (field_ptr (P := Try.prog) (h := h_31) (s := 35) (f := 11) (by kernel_rfl) e121) ?_
       replace hF := obind_some hF; obtain ⟨v43, e122, hF⟩ := hF
       replace hF := obind_some hF; obtain ⟨t43, c123, hF⟩ := hF
       have c123 := avInt_some c123
       subst c123
       refine WD.b 1 (some 43) (.int .i64 t43) h_31 (load_cell (P := Try.prog) (h := h_31) (t := 3) (by kernel_rfl) e122) ?_
       refine WD.a 0 (some 44) t0 h_31 ?_
       obtain ⟨t45, e124, hF⟩ := obind_some hF
       refine WD.b 0 (some 45) t45 h_31 (nil_chk (h := h_31) e124) ?_
       obtain ⟨t46, e125, hF⟩ := obind_some hF
       refine WD.b 0 (some 46) t46 h_31 (field_ptr (P := Try.prog) (h := h_31) (s := 98) (f := 1) (by kernel_rfl) e125) ?_
       replace hF := obind_some hF; obtain ⟨v47, e126, hF⟩ := hF
       replace hF := obind_some hF; obtain ⟨t47, c127, hF⟩ := hF
       have c127 := avInt_some c127
       subst c127
       refine WD.b 1 (some 47) (.int .i64 t47) h_31 (load_cell (P := Try.prog) (h := h_31) (t := 3) (by kernel_rfl) e126) ?_
       obtain ⟨t48, e128, hF⟩ := lett_some hF
       refine WD.val (d := (some 48)) (v := .bool t48) (h' := h_31) (by kernel_rfl) (by kernel_rfl) (val_of AV.bool e128 (by kernel_rfl)) (k := 0) (by kernel_rfl) (fun e => absurd e (by decide)) (by decide) ?_
       refine WD.a 0 (some 49) (.bool t48) h_31 ?_
       refine WD.nil ?_
       exact gW _ (J35 _ _ hF)
    cases t24 with
    | true =>
     replace hF := ifB_t hF
     refine WL.o (some 26) ?_
     refine WL.o (some 27) ?_
     refine WL.o (some 28) ?_
     refine oA 29 (.bool true) ?_
     exact lW _ (J20 _ _ hF)
    | false =>
     replace hF := ifB_f hF
     refine oF 26 35 4 hF fun t26 hF => ?_
     refine oLi 27 3 hF fun t27 hF => ?_
     refine oB 28 hF fun t28 hF => ?_
     refine oA 29 (.bool t28) ?_
     exact lW _ (J20 _ _ hF)
   cases t19 with
   | true =>
    replace hF := ifB_t hF
    refine WL.o (some 21) ?_
    refine WL.o (some 22) ?_
    refine WL.o (some 23) ?_
    refine oA 24 (.bool true) ?_
    exact lW _ (J17 _ _ hF)
   | false =>
    replace hF := ifB_f hF
    refine oF 21 35 10 hF fun t21 hF => ?_
    refine oLi 22 3 hF fun t22 hF => ?_
    refine oB 23 hF fun t23 hF => ?_
    refine oA 24 (.bool t23) ?_
    exact lW _ (J17 _ _ hF)
  cases t14 with
  | true =>
   replace hF := ifB_t hF
   refine WL.o (some 16) ?_
   refine WL.o (some 17) ?_
   refine WL.o (some 18) ?_
   refine oA 19 (.bool true) ?_
   exact lW _ (J14 _ _ hF)
  | false =>
   replace hF := ifB_f hF
   refine oF 16 35 11 hF fun t16 hF => ?_
   refine oLi 17 3 hF fun t17 hF => ?_
   refine oB 18 hF fun t18 hF => ?_
   refine oA 19 (.bool t18) ?_
   exact lW _ (J14 _ _ hF)
 cases t9 with
 | true =>
  replace hF := ifB_t hF
  refine WL.o (some 11) ?_
  refine WL.o (some 12) ?_
  refine WL.o (some 13) ?_
  refine oA 14 (.bool true) ?_
  exact lW _ (J11 _ _ hF)
 | false =>
  replace hF := ifB_f hF
  refine oF 11 35 11 hF fun t11 hF => ?_
  refine oLi 12 3 hF fun t12 hF => ?_
  refine oB 13 hF fun t13 hF => ?_
  refine oA 14 (.bool t13) ?_
  exact lW _ (J11 _ _ hF)
noncomputable def worldF (n : Nat) (call : CallF) : CallF := callOf [
 (13, gcF (fn0 (disk_New call n))),
 (26, fn3 Dv (Di .i64) Ds (disk_Disk_Append call n)),
 (64, fn2 Dv (Di .i64) (disk_Disk_Sync call n)),
 (63, fn2 Dv (Di .i64) (disk_Disk_Remove call n)),
 (17, fn1 Dv (disk_Disk_Files call n)),
 (23, fn2 Dv (Di .i64) (disk_Disk_Power call n)),
 (59, fn1 Dv (disk_Disk_On call n)),
 (29, fn1 Dv (disk_Disk_Ops call n)),
 (50, fn2 Dv (Di .i64) (disk_Disk_refuses call n)),
 (51, fn3 Dv (Di .i64) Da (disk_Disk_change call n)),
 (72, fn2 Dv Dv (disk_content_do call n)),
 (74, fn1 Dv (disk_Disk_step call n)),
 (53, gcF (fn1 (Di .i64) (disk_isFile call n))),
 (60, fn2 Dv (Di .i64) (disk_Disk_Read call n)),
 (28, fn2 Dv (Di .i64) (disk_Disk_Sure call n)),
 (30, fn2 Dv (Di .i64) (disk_Disk_Loose call n)),
 (25, fn3 Dv Dv (Di .i64) (disk_Disk_Crash call n)),
 (49, fn3 Dv (Di .i64) (Di .i64) (disk_file_crash call n)),
 (73, fn1 Dv (disk_content_copy call n)),
 (86, fn1 Dv (slices_Clone___byte_byte_ call n)),
 (100, gcF (fn2 (Di .u32) Ds (sum_More call n))),
 (96, gcF (fn1 Ds (sum_Of call n))),
 (89, gcF (fn1 Ds (frame_summed call n))),
 (99, gcF (fn1 Ds (frame_whole call n))),
 (82, gcF (fn1 Ds (frame_Put call n))),
 (93, gcF (fn1 Ds (frame_Take call n))),
 (87, fn1 Ds (frame_All call n)),
 (90, gcF (fn1 (Di .u32) (wire_U32 call n))),
 (66, gcF (fn1 (Di .u64) (wire_U64 call n))),
 (78, gcF (fn1 Ds (wire_New call n))),
 (83, gcF (fn2 (Di .u64) (Di .i64) (wire_number call n))),
 (98, fn1 Dv (wire_Reader_U32 call n)),
 (79, fn1 Dv (wire_Reader_U64 call n)),
 (88, fn2 Dv (Di .i64) (wire_Reader_number call n)),
 (94, fn1 Dv (wire_Reader_whole call n)),
 (95, fn3 Dv (Di .i64) (Di .i64) (wire_Reader_fail call n)),
 (32, gcF (fn2 Ds Ds (strings_HasPrefix call n))),
 (56, gcF (fn2 Ds Ds (internal_stringslite_HasPrefix call n))),
 (33, fn2 Dv (Di .i64) (strings_Builder_Grow call n)),
 (34, fn2 Dv Ds (strings_Builder_WriteString call n)),
 (36, fn1 Dv (strings_Builder_String call n)),
 (57, fn1 Dv (strings_Builder_copyCheck call n)),
 (58, fn2 Dv (Di .i64) (strings_Builder_grow call n)),
 (80, fn2 Dv Ds (strings_Join call n)),
 (62, fn2 Dv (Di .i64) (slices_Contains___int_int_ call n)),
 (81, fn2 Dv (Di .i64) (slices_Index___int_int_ call n)),
 (37, gcF (fn1 Ds (snap_chunk call n))),
 (65, gcF (fn1 Ds (snap_framed call n))),
 (41, gcF (fn1 Da (snap_markRight call n))),
 (40, gcF (fn1 Da (snap_newest call n))),
 (43, gcF (fn2 Da Ds (snap_bytesOf call n))),
 (38, fn1 Dv (snap_ready call n)),
 (11, gcF (fn0 (snap_NewInbox call n))),
 (12, fn2 Dv Da (snap_Inbox_Put call n))]
set_option maxRecDepth 20000 in
theorem worldF_ok (n : Nat) (call : CallF) (hc : SaysAll Try.prog call) : SaysAll Try.prog (worldF n call) := (callOf_cons (gcF_holds (fn0_holds (disk_New_ok hc)))
 (callOf_cons (fn3_holds Dv (Di .i64) Ds (disk_Disk_Append_ok hc))
 (callOf_cons (fn2_holds Dv (Di .i64) (disk_Disk_Sync_ok hc))
 (callOf_cons (fn2_holds Dv (Di .i64) (disk_Disk_Remove_ok hc))
 (callOf_cons (fn1_holds Dv (disk_Disk_Files_ok hc))
 (callOf_cons (fn2_holds Dv (Di .i64) (disk_Disk_Power_ok hc))
 (callOf_cons (fn1_holds Dv (disk_Disk_On_ok hc))
 (callOf_cons (fn1_holds Dv (disk_Disk_Ops_ok hc))
 (callOf_cons (fn2_holds Dv (Di .i64) (disk_Disk_refuses_ok hc))
 (callOf_cons (fn3_holds Dv (Di .i64) Da (disk_Disk_change_ok hc))
 (callOf_cons (fn2_holds Dv Dv (disk_content_do_ok hc))
 (callOf_cons (fn1_holds Dv (disk_Disk_step_ok hc))
 (callOf_cons (gcF_holds (fn1_holds (Di .i64) (disk_isFile_ok hc)))
 (callOf_cons (fn2_holds Dv (Di .i64) (disk_Disk_Read_ok hc))
 (callOf_cons (fn2_holds Dv (Di .i64) (disk_Disk_Sure_ok hc))
 (callOf_cons (fn2_holds Dv (Di .i64) (disk_Disk_Loose_ok hc))
 (callOf_cons (fn3_holds Dv Dv (Di .i64) (disk_Disk_Crash_ok hc))
 (callOf_cons (fn3_holds Dv (Di .i64) (Di .i64) (disk_file_crash_ok hc))
 (callOf_cons (fn1_holds Dv (disk_content_copy_ok hc))
 (callOf_cons (fn1_holds Dv (slices_Clone___byte_byte__ok hc))
 (callOf_cons (gcF_holds (fn2_holds (Di .u32) Ds (sum_More_ok hc)))
 (callOf_cons (gcF_holds (fn1_holds Ds (sum_Of_ok hc)))
 (callOf_cons (gcF_holds (fn1_holds Ds (frame_summed_ok hc)))
 (callOf_cons (gcF_holds (fn1_holds Ds (frame_whole_ok hc)))
 (callOf_cons (gcF_holds (fn1_holds Ds (frame_Put_ok hc)))
 (callOf_cons (gcF_holds (fn1_holds Ds (frame_Take_ok hc)))
 (callOf_cons (fn1_holds Ds (frame_All_ok hc))
 (callOf_cons (gcF_holds (fn1_holds (Di .u32) (wire_U32_ok hc)))
 (callOf_cons (gcF_holds (fn1_holds (Di .u64) (wire_U64_ok hc)))
 (callOf_cons (gcF_holds (fn1_holds Ds (wire_New_ok hc)))
 (callOf_cons (gcF_holds (fn2_holds (Di .u64) (Di .i64) (wire_number_ok hc)))
 (callOf_cons (fn1_holds Dv (wire_Reader_U32_ok hc))
 (callOf_cons (fn1_holds Dv (wire_Reader_U64_ok hc))
 (callOf_cons (fn2_holds Dv (Di .i64) (wire_Reader_number_ok hc))
 (callOf_cons (fn1_holds Dv (wire_Reader_whole_ok hc))
 (callOf_cons (fn3_holds Dv (Di .i64) (Di .i64) (wire_Reader_fail_ok hc))
 (callOf_cons (gcF_holds (fn2_holds Ds Ds (strings_HasPrefix_ok hc)))
 (callOf_cons (gcF_holds (fn2_holds Ds Ds (internal_stringslite_HasPrefix_ok hc)))
 (callOf_cons (fn2_holds Dv (Di .i64) (strings_Builder_Grow_ok hc))
 (callOf_cons (fn2_holds Dv Ds (strings_Builder_WriteString_ok hc))
 (callOf_cons (fn1_holds Dv (strings_Builder_String_ok hc))
 (callOf_cons (fn1_holds Dv (strings_Builder_copyCheck_ok hc))
 (callOf_cons (fn2_holds Dv (Di .i64) (strings_Builder_grow_ok hc))
 (callOf_cons (fn2_holds Dv Ds (strings_Join_ok hc))
 (callOf_cons (fn2_holds Dv (Di .i64) (slices_Contains___int_int__ok hc))
 (callOf_cons (fn2_holds Dv (Di .i64) (slices_Index___int_int__ok hc))
 (callOf_cons (gcF_holds (fn1_holds Ds (snap_chunk_ok hc)))
 (callOf_cons (gcF_holds (fn1_holds Ds (snap_framed_ok hc)))
 (callOf_cons (gcF_holds (fn1_holds Da (snap_markRight_ok hc)))
 (callOf_cons (gcF_holds (fn1_holds Da (snap_newest_ok hc)))
 (callOf_cons (gcF_holds (fn2_holds Da Ds (snap_bytesOf_ok hc)))
 (callOf_cons (fn1_holds Dv (snap_ready_ok hc))
 (callOf_cons (gcF_holds (fn0_holds (snap_NewInbox_ok hc)))
 (callOf_cons (fn2_holds Dv Da (snap_Inbox_Put_ok hc))
 callOf_nil))))))))))))))))))))))))))))))))))))))))))))))))))))))
noncomputable def world (n d : Nat) : CallF := iterW (worldF n) d
theorem world_ok (n d : Nat) : SaysAll Try.prog (world n d) := iterW_ok (worldF_ok n) d
theorem w_disk_New (n d : Nat)  (h : AHeap) : world n (d + 1) 13 [] h = gcR h (disk_New (world n d) n  h) :=
 Eq.trans (b := gcR h (fn0 (disk_New (world n d) n) [] h)) (by kernel_rfl) (congrArg (gcR h) (fn0_eq  _  h))
theorem w_disk_Disk_Append (n d : Nat) (t0 : AV) (t1 : Int) (t2 : Bytes) (h : AHeap) : world n (d + 1) 26 [t0, .int .i64 t1, strA t2] h = disk_Disk_Append (world n d) n t0 t1 t2 h :=
 Eq.trans (b := fn3 Dv (Di .i64) Ds (disk_Disk_Append (world n d) n) [t0, .int .i64 t1, strA t2] h) (by kernel_rfl) (fn3_eq Dv (Di .i64) Ds _ t0 t1 t2 h)
theorem w_disk_Disk_Sync (n d : Nat) (t0 : AV) (t1 : Int) (h : AHeap) : world n (d + 1) 64 [t0, .int .i64 t1] h = disk_Disk_Sync (world n d) n t0 t1 h :=
 Eq.trans (b := fn2 Dv (Di .i64) (disk_Disk_Sync (world n d) n) [t0, .int .i64 t1] h) (by kernel_rfl) (fn2_eq Dv (Di .i64) _ t0 t1 h)
theorem w_disk_Disk_Remove (n d : Nat) (t0 : AV) (t1 : Int) (h : AHeap) : world n (d + 1) 63 [t0, .int .i64 t1] h = disk_Disk_Remove (world n d) n t0 t1 h :=
 Eq.trans (b := fn2 Dv (Di .i64) (disk_Disk_Remove (world n d) n) [t0, .int .i64 t1] h) (by kernel_rfl) (fn2_eq Dv (Di .i64) _ t0 t1 h)
theorem w_disk_Disk_Files (n d : Nat) (t0 : AV) (h : AHeap) : world n (d + 1) 17 [t0] h = disk_Disk_Files (world n d) n t0 h :=
 Eq.trans (b := fn1 Dv (disk_Disk_Files (world n d) n) [t0] h) (by kernel_rfl) (fn1_eq Dv _ t0 h)
theorem w_disk_Disk_Power (n d : Nat) (t0 : AV) (t1 : Int) (h : AHeap) : world n (d + 1) 23 [t0, .int .i64 t1] h = disk_Disk_Power (world n d) n t0 t1 h :=
 Eq.trans (b := fn2 Dv (Di .i64) (disk_Disk_Power (world n d) n) [t0, .int .i64 t1] h) (by kernel_rfl) (fn2_eq Dv (Di .i64) _ t0 t1 h)
theorem w_disk_Disk_On (n d : Nat) (t0 : AV) (h : AHeap) : world n (d + 1) 59 [t0] h = disk_Disk_On (world n d) n t0 h :=
 Eq.trans (b := fn1 Dv (disk_Disk_On (world n d) n) [t0] h) (by kernel_rfl) (fn1_eq Dv _ t0 h)
theorem w_disk_Disk_refuses (n d : Nat) (t0 : AV) (t1 : Int) (h : AHeap) : world n (d + 1) 50 [t0, .int .i64 t1] h = disk_Disk_refuses (world n d) n t0 t1 h :=
 Eq.trans (b := fn2 Dv (Di .i64) (disk_Disk_refuses (world n d) n) [t0, .int .i64 t1] h) (by kernel_rfl) (fn2_eq Dv (Di .i64) _ t0 t1 h)
theorem w_disk_Disk_change (n d : Nat) (t0 : AV) (t1 : Int) (t2 : List AV) (h : AHeap) : world n (d + 1) 51 [t0, .int .i64 t1, .agg t2] h = disk_Disk_change (world n d) n t0 t1 t2 h :=
 Eq.trans (b := fn3 Dv (Di .i64) Da (disk_Disk_change (world n d) n) [t0, .int .i64 t1, .agg t2] h) (by kernel_rfl) (fn3_eq Dv (Di .i64) Da _ t0 t1 t2 h)
theorem w_disk_content_do (n d : Nat) (t0 : AV) (t1 : AV) (h : AHeap) : world n (d + 1) 72 [t0, t1] h = disk_content_do (world n d) n t0 t1 h :=
 Eq.trans (b := fn2 Dv Dv (disk_content_do (world n d) n) [t0, t1] h) (by kernel_rfl) (fn2_eq Dv Dv _ t0 t1 h)
theorem w_disk_Disk_step (n d : Nat) (t0 : AV) (h : AHeap) : world n (d + 1) 74 [t0] h = disk_Disk_step (world n d) n t0 h :=
 Eq.trans (b := fn1 Dv (disk_Disk_step (world n d) n) [t0] h) (by kernel_rfl) (fn1_eq Dv _ t0 h)
theorem w_disk_isFile (n d : Nat) (t0 : Int) (h : AHeap) : world n (d + 1) 53 [.int .i64 t0] h = gcR h (disk_isFile (world n d) n t0 h) :=
 Eq.trans (b := gcR h (fn1 (Di .i64) (disk_isFile (world n d) n) [.int .i64 t0] h)) (by kernel_rfl) (congrArg (gcR h) (fn1_eq (Di .i64) _ t0 h))
theorem w_disk_Disk_Read (n d : Nat) (t0 : AV) (t1 : Int) (h : AHeap) : world n (d + 1) 60 [t0, .int .i64 t1] h = disk_Disk_Read (world n d) n t0 t1 h :=
 Eq.trans (b := fn2 Dv (Di .i64) (disk_Disk_Read (world n d) n) [t0, .int .i64 t1] h) (by kernel_rfl) (fn2_eq Dv (Di .i64) _ t0 t1 h)
theorem w_disk_Disk_Crash (n d : Nat) (t0 : AV) (t1 : AV) (t2 : Int) (h : AHeap) : world n (d + 1) 25 [t0, t1, .int .i64 t2] h = disk_Disk_Crash (world n d) n t0 t1 t2 h :=
 Eq.trans (b := fn3 Dv Dv (Di .i64) (disk_Disk_Crash (world n d) n) [t0, t1, .int .i64 t2] h) (by kernel_rfl) (fn3_eq Dv Dv (Di .i64) _ t0 t1 t2 h)
theorem w_disk_file_crash (n d : Nat) (t0 : AV) (t1 : Int) (t2 : Int) (h : AHeap) : world n (d + 1) 49 [t0, .int .i64 t1, .int .i64 t2] h = disk_file_crash (world n d) n t0 t1 t2 h :=
 Eq.trans (b := fn3 Dv (Di .i64) (Di .i64) (disk_file_crash (world n d) n) [t0, .int .i64 t1, .int .i64 t2] h) (by kernel_rfl) (fn3_eq Dv (Di .i64) (Di .i64) _ t0 t1 t2 h)
theorem w_disk_content_copy (n d : Nat) (t0 : AV) (h : AHeap) : world n (d + 1) 73 [t0] h = disk_content_copy (world n d) n t0 h :=
 Eq.trans (b := fn1 Dv (disk_content_copy (world n d) n) [t0] h) (by kernel_rfl) (fn1_eq Dv _ t0 h)
theorem w_slices_Clone___byte_byte_ (n d : Nat) (t0 : AV) (h : AHeap) : world n (d + 1) 86 [t0] h = slices_Clone___byte_byte_ (world n d) n t0 h :=
 Eq.trans (b := fn1 Dv (slices_Clone___byte_byte_ (world n d) n) [t0] h) (by kernel_rfl) (fn1_eq Dv _ t0 h)
theorem w_sum_More (n d : Nat) (t0 : Int) (t1 : Bytes) (h : AHeap) : world n (d + 1) 100 [.int .u32 t0, strA t1] h = gcR h (sum_More (world n d) n t0 t1 h) :=
 Eq.trans (b := gcR h (fn2 (Di .u32) Ds (sum_More (world n d) n) [.int .u32 t0, strA t1] h)) (by kernel_rfl) (congrArg (gcR h) (fn2_eq (Di .u32) Ds _ t0 t1 h))
theorem w_sum_Of (n d : Nat) (t0 : Bytes) (h : AHeap) : world n (d + 1) 96 [strA t0] h = gcR h (sum_Of (world n d) n t0 h) :=
 Eq.trans (b := gcR h (fn1 Ds (sum_Of (world n d) n) [strA t0] h)) (by kernel_rfl) (congrArg (gcR h) (fn1_eq Ds _ t0 h))
theorem w_frame_summed (n d : Nat) (t0 : Bytes) (h : AHeap) : world n (d + 1) 89 [strA t0] h = gcR h (frame_summed (world n d) n t0 h) :=
 Eq.trans (b := gcR h (fn1 Ds (frame_summed (world n d) n) [strA t0] h)) (by kernel_rfl) (congrArg (gcR h) (fn1_eq Ds _ t0 h))
theorem w_frame_whole (n d : Nat) (t0 : Bytes) (h : AHeap) : world n (d + 1) 99 [strA t0] h = gcR h (frame_whole (world n d) n t0 h) :=
 Eq.trans (b := gcR h (fn1 Ds (frame_whole (world n d) n) [strA t0] h)) (by kernel_rfl) (congrArg (gcR h) (fn1_eq Ds _ t0 h))
theorem w_frame_Put (n d : Nat) (t0 : Bytes) (h : AHeap) : world n (d + 1) 82 [strA t0] h = gcR h (frame_Put (world n d) n t0 h) :=
 Eq.trans (b := gcR h (fn1 Ds (frame_Put (world n d) n) [strA t0] h)) (by kernel_rfl) (congrArg (gcR h) (fn1_eq Ds _ t0 h))
theorem w_frame_Take (n d : Nat) (t0 : Bytes) (h : AHeap) : world n (d + 1) 93 [strA t0] h = gcR h (frame_Take (world n d) n t0 h) :=
 Eq.trans (b := gcR h (fn1 Ds (frame_Take (world n d) n) [strA t0] h)) (by kernel_rfl) (congrArg (gcR h) (fn1_eq Ds _ t0 h))
theorem w_frame_All (n d : Nat) (t0 : Bytes) (h : AHeap) : world n (d + 1) 87 [strA t0] h = frame_All (world n d) n t0 h :=
 Eq.trans (b := fn1 Ds (frame_All (world n d) n) [strA t0] h) (by kernel_rfl) (fn1_eq Ds _ t0 h)
theorem w_wire_U32 (n d : Nat) (t0 : Int) (h : AHeap) : world n (d + 1) 90 [.int .u32 t0] h = gcR h (wire_U32 (world n d) n t0 h) :=
 Eq.trans (b := gcR h (fn1 (Di .u32) (wire_U32 (world n d) n) [.int .u32 t0] h)) (by kernel_rfl) (congrArg (gcR h) (fn1_eq (Di .u32) _ t0 h))
theorem w_wire_U64 (n d : Nat) (t0 : Int) (h : AHeap) : world n (d + 1) 66 [.int .u64 t0] h = gcR h (wire_U64 (world n d) n t0 h) :=
 Eq.trans (b := gcR h (fn1 (Di .u64) (wire_U64 (world n d) n) [.int .u64 t0] h)) (by kernel_rfl) (congrArg (gcR h) (fn1_eq (Di .u64) _ t0 h))
theorem w_wire_New (n d : Nat) (t0 : Bytes) (h : AHeap) : world n (d + 1) 78 [strA t0] h = gcR h (wire_New (world n d) n t0 h) :=
 Eq.trans (b := gcR h (fn1 Ds (wire_New (world n d) n) [strA t0] h)) (by kernel_rfl) (congrArg (gcR h) (fn1_eq Ds _ t0 h))
theorem w_wire_number (n d : Nat) (t0 : Int) (t1 : Int) (h : AHeap) : world n (d + 1) 83 [.int .u64 t0, .int .i64 t1] h = gcR h (wire_number (world n d) n t0 t1 h) :=
 Eq.trans (b := gcR h (fn2 (Di .u64) (Di .i64) (wire_number (world n d) n) [.int .u64 t0, .int .i64 t1] h)) (by kernel_rfl) (congrArg (gcR h) (fn2_eq (Di .u64) (Di .i64) _ t0 t1 h))
theorem w_wire_Reader_U32 (n d : Nat) (t0 : AV) (h : AHeap) : world n (d + 1) 98 [t0] h = wire_Reader_U32 (world n d) n t0 h :=
 Eq.trans (b := fn1 Dv (wire_Reader_U32 (world n d) n) [t0] h) (by kernel_rfl) (fn1_eq Dv _ t0 h)
theorem w_wire_Reader_U64 (n d : Nat) (t0 : AV) (h : AHeap) : world n (d + 1) 79 [t0] h = wire_Reader_U64 (world n d) n t0 h :=
 Eq.trans (b := fn1 Dv (wire_Reader_U64 (world n d) n) [t0] h) (by kernel_rfl) (fn1_eq Dv _ t0 h)
theorem w_wire_Reader_number (n d : Nat) (t0 : AV) (t1 : Int) (h : AHeap) : world n (d + 1) 88 [t0, .int .i64 t1] h = wire_Reader_number (world n d) n t0 t1 h :=
 Eq.trans (b := fn2 Dv (Di .i64) (wire_Reader_number (world n d) n) [t0, .int .i64 t1] h) (by kernel_rfl) (fn2_eq Dv (Di .i64) _ t0 t1 h)
theorem w_wire_Reader_whole (n d : Nat) (t0 : AV) (h : AHeap) : world n (d + 1) 94 [t0] h = wire_Reader_whole (world n d) n t0 h :=
 Eq.trans (b := fn1 Dv (wire_Reader_whole (world n d) n) [t0] h) (by kernel_rfl) (fn1_eq Dv _ t0 h)
theorem w_wire_Reader_fail (n d : Nat) (t0 : AV) (t1 : Int) (t2 : Int) (h : AHeap) : world n (d + 1) 95 [t0, .int .i64 t1, .int .i64 t2] h = wire_Reader_fail (world n d) n t0 t1 t2 h :=
 Eq.trans (b := fn3 Dv (Di .i64) (Di .i64) (wire_Reader_fail (world n d) n) [t0, .int .i64 t1, .int .i64 t2] h) (by kernel_rfl) (fn3_eq Dv (Di .i64) (Di .i64) _ t0 t1 t2 h)
theorem w_strings_HasPrefix (n d : Nat) (t0 : Bytes) (t1 : Bytes) (h : AHeap) : world n (d + 1) 32 [strA t0, strA t1] h = gcR h (strings_HasPrefix (world n d) n t0 t1 h) :=
 Eq.trans (b := gcR h (fn2 Ds Ds (strings_HasPrefix (world n d) n) [strA t0, strA t1] h)) (by kernel_rfl) (congrArg (gcR h) (fn2_eq Ds Ds _ t0 t1 h))
theorem w_internal_stringslite_HasPrefix (n d : Nat) (t0 : Bytes) (t1 : Bytes) (h : AHeap) : world n (d + 1) 56 [strA t0, strA t1] h = gcR h (internal_stringslite_HasPrefix (world n d) n t0 t1 h) :=
 Eq.trans (b := gcR h (fn2 Ds Ds (internal_stringslite_HasPrefix (world n d) n) [strA t0, strA t1] h)) (by kernel_rfl) (congrArg (gcR h) (fn2_eq Ds Ds _ t0 t1 h))
theorem w_strings_Builder_Grow (n d : Nat) (t0 : AV) (t1 : Int) (h : AHeap) : world n (d + 1) 33 [t0, .int .i64 t1] h = strings_Builder_Grow (world n d) n t0 t1 h :=
 Eq.trans (b := fn2 Dv (Di .i64) (strings_Builder_Grow (world n d) n) [t0, .int .i64 t1] h) (by kernel_rfl) (fn2_eq Dv (Di .i64) _ t0 t1 h)
theorem w_strings_Builder_WriteString (n d : Nat) (t0 : AV) (t1 : Bytes) (h : AHeap) : world n (d + 1) 34 [t0, strA t1] h = strings_Builder_WriteString (world n d) n t0 t1 h :=
 Eq.trans (b := fn2 Dv Ds (strings_Builder_WriteString (world n d) n) [t0, strA t1] h) (by kernel_rfl) (fn2_eq Dv Ds _ t0 t1 h)
theorem w_strings_Builder_String (n d : Nat) (t0 : AV) (h : AHeap) : world n (d + 1) 36 [t0] h = strings_Builder_String (world n d) n t0 h :=
 Eq.trans (b := fn1 Dv (strings_Builder_String (world n d) n) [t0] h) (by kernel_rfl) (fn1_eq Dv _ t0 h)
theorem w_strings_Builder_copyCheck (n d : Nat) (t0 : AV) (h : AHeap) : world n (d + 1) 57 [t0] h = strings_Builder_copyCheck (world n d) n t0 h :=
 Eq.trans (b := fn1 Dv (strings_Builder_copyCheck (world n d) n) [t0] h) (by kernel_rfl) (fn1_eq Dv _ t0 h)
theorem w_strings_Builder_grow (n d : Nat) (t0 : AV) (t1 : Int) (h : AHeap) : world n (d + 1) 58 [t0, .int .i64 t1] h = strings_Builder_grow (world n d) n t0 t1 h :=
 Eq.trans (b := fn2 Dv (Di .i64) (strings_Builder_grow (world n d) n) [t0, .int .i64 t1] h) (by kernel_rfl) (fn2_eq Dv (Di .i64) _ t0 t1 h)
theorem w_strings_Join (n d : Nat) (t0 : AV) (t1 : Bytes) (h : AHeap) : world n (d + 1) 80 [t0, strA t1] h = strings_Join (world n d) n t0 t1 h :=
 Eq.trans (b := fn2 Dv Ds (strings_Join (world n d) n) [t0, strA t1] h) (by kernel_rfl) (fn2_eq Dv Ds _ t0 t1 h)
theorem w_slices_Contains___int_int_ (n d : Nat) (t0 : AV) (t1 : Int) (h : AHeap) : world n (d + 1) 62 [t0, .int .i64 t1] h = slices_Contains___int_int_ (world n d) n t0 t1 h :=
 Eq.trans (b := fn2 Dv (Di .i64) (slices_Contains___int_int_ (world n d) n) [t0, .int .i64 t1] h) (by kernel_rfl) (fn2_eq Dv (Di .i64) _ t0 t1 h)
theorem w_slices_Index___int_int_ (n d : Nat) (t0 : AV) (t1 : Int) (h : AHeap) : world n (d + 1) 81 [t0, .int .i64 t1] h = slices_Index___int_int_ (world n d) n t0 t1 h :=
 Eq.trans (b := fn2 Dv (Di .i64) (slices_Index___int_int_ (world n d) n) [t0, .int .i64 t1] h) (by kernel_rfl) (fn2_eq Dv (Di .i64) _ t0 t1 h)
theorem w_snap_chunk (n d : Nat) (t0 : Bytes) (h : AHeap) : world n (d + 1) 37 [strA t0] h = gcR h (snap_chunk (world n d) n t0 h) :=
 Eq.trans (b := gcR h (fn1 Ds (snap_chunk (world n d) n) [strA t0] h)) (by kernel_rfl) (congrArg (gcR h) (fn1_eq Ds _ t0 h))
theorem w_snap_framed (n d : Nat) (t0 : Bytes) (h : AHeap) : world n (d + 1) 65 [strA t0] h = gcR h (snap_framed (world n d) n t0 h) :=
 Eq.trans (b := gcR h (fn1 Ds (snap_framed (world n d) n) [strA t0] h)) (by kernel_rfl) (congrArg (gcR h) (fn1_eq Ds _ t0 h))
theorem w_snap_markRight (n d : Nat) (t0 : List AV) (h : AHeap) : world n (d + 1) 41 [.agg t0] h = gcR h (snap_markRight (world n d) n t0 h) :=
 Eq.trans (b := gcR h (fn1 Da (snap_markRight (world n d) n) [.agg t0] h)) (by kernel_rfl) (congrArg (gcR h) (fn1_eq Da _ t0 h))
theorem w_snap_newest (n d : Nat) (t0 : List AV) (h : AHeap) : world n (d + 1) 40 [.agg t0] h = gcR h (snap_newest (world n d) n t0 h) :=
 Eq.trans (b := gcR h (fn1 Da (snap_newest (world n d) n) [.agg t0] h)) (by kernel_rfl) (congrArg (gcR h) (fn1_eq Da _ t0 h))
theorem w_snap_bytesOf (n d : Nat) (t0 : List AV) (t1 : Bytes) (h : AHeap) : world n (d + 1) 43 [.agg t0, strA t1] h = gcR h (snap_bytesOf (world n d) n t0 t1 h) :=
 Eq.trans (b := gcR h (fn2 Da Ds (snap_bytesOf (world n d) n) [.agg t0, strA t1] h)) (by kernel_rfl) (congrArg (gcR h) (fn2_eq Da Ds _ t0 t1 h))
theorem w_snap_ready (n d : Nat) (t0 : AV) (h : AHeap) : world n (d + 1) 38 [t0] h = snap_ready (world n d) n t0 h :=
 Eq.trans (b := fn1 Dv (snap_ready (world n d) n) [t0] h) (by kernel_rfl) (fn1_eq Dv _ t0 h)
theorem w_snap_NewInbox (n d : Nat)  (h : AHeap) : world n (d + 1) 11 [] h = gcR h (snap_NewInbox (world n d) n  h) :=
 Eq.trans (b := gcR h (fn0 (snap_NewInbox (world n d) n) [] h)) (by kernel_rfl) (congrArg (gcR h) (fn0_eq  _  h))
theorem w_snap_Inbox_Put (n d : Nat) (t0 : AV) (t1 : List AV) (h : AHeap) : world n (d + 1) 12 [t0, .agg t1] h = snap_Inbox_Put (world n d) n t0 t1 h :=
 Eq.trans (b := fn2 Dv Da (snap_Inbox_Put (world n d) n) [t0, .agg t1] h) (by kernel_rfl) (fn2_eq Dv Da _ t0 t1 h)
end Go.Proofs.Ytpnccmlajhhpdaa
namespace Go.Proofs.Ytpnccmlajhhpdaa.Abs
noncomputable section
open Go.RowKit
def Wp (x : R) (Q : ARes → AHeap → Prop) : Prop := ∃ r h, x = some (r, h) ∧ Q r h
section
variable {α β : Type} {Q Q' : ARes → AHeap → Prop} {r : ARes} {h h1 : AHeap} {v : AV} {x y : R} {b : Bool}
theorem Wp.ret (hq : Q r h) : Wp (some (r, h)) Q := ⟨r, h, rfl, hq⟩
theorem Wp.of (e : x = some (r, h)) (hq : Q r h) : Wp x Q := ⟨r, h, e, hq⟩
theorem Wp.mono (k : Wp x Q) (hq : ∀ r h, Q r h → Q' r h) : Wp x Q' := by
 obtain ⟨r, h, e, q⟩ := k
 exact ⟨r, h, e, hq r h q⟩
theorem Wp.eq (k : Wp x fun r' h' => r' = r ∧ h' = h) : x = some (r, h) := by
 obtain ⟨_, _, e, rfl, rfl⟩ := k
 exact e
theorem Wp.ex {Q : AHeap → Prop} (k : Wp x fun r' h' => r' = r ∧ Q h') : ∃ h', x = some (r, h') ∧ Q h' := by
 obtain ⟨_, h', e, rfl, q⟩ := k
 exact ⟨h', e, q⟩
theorem Wp.lett {v : α} {k : α → R} (hk : Wp (k v) Q) : Wp (lett v k) Q := hk
theorem Wp.lettw {v : Int} {k : Int → R} (h1 : -9223372036854775808 ≤ v) (h2 : v < 9223372036854775808) (hk : Wp (k v) Q) : Wp (Abs.lett (IntKind.i64.wrap v) k) Q := by
 rw [wrap_i64 h1 h2]
 exact hk
theorem Wp.lettu32 {v : Int} {k : Int → R} (h1 : 0 ≤ v) (h2 : v < 4294967296) (hk : Wp (k v) Q) : Wp (Abs.lett (IntKind.u32.wrap v) k) Q := by
 rw [wrap_u32_mod, Int.emod_eq_of_lt h1 h2]
 exact hk
theorem Wp.lettu64 {v : Int} {k : Int → R} (h1 : 0 ≤ v) (h2 : v < 18446744073709551616) (hk : Wp (k v) Q) : Wp (Abs.lett (IntKind.u64.wrap v) k) Q := by
 rw [wrap_u64_mod, Int.emod_eq_of_lt h1 h2]
 exact hk
theorem Wp.join0 {F : AHeap → R} {G : (AHeap → R) → R} (hk : ∀ k, k = F → Wp (G k) Q) : Wp (Abs.lett F G) Q := hk F rfl
theorem Wp.join1 {F : α → AHeap → R} {G : (α → AHeap → R) → R} (hk : ∀ k, k = F → Wp (G k) Q) : Wp (Abs.lett F G) Q := hk F rfl
theorem Wp.go0 {k F : AHeap → R} (e : k = F) (hk : Wp (F h) Q) : Wp (k h) Q := by rw [e]; exact hk
theorem Wp.go1 {k F : α → AHeap → R} {a : α} (e : k = F) (hk : Wp (F a h) Q) : Wp (k a h) Q := by rw [e]; exact hk
theorem Wp.obind {o : Option α} {a : α} {k : α → R} (e : o = some a) (hk : Wp (k a) Q) : Wp (Abs.obind o k) Q := by rw [e]; exact hk
theorem Wp.ift (e : b = true) (hk : Wp x Q) : Wp (ifB b x y) Q := by rw [e]; exact hk
theorem Wp.iff (e : b = false) (hk : Wp y Q) : Wp (ifB b x y) Q := by rw [e]; exact hk
theorem Wp.outK {o : OutT} {k : AV → AHeap → R} (e : o = some (.val v, h1)) (hk : Wp (k v h1) Q) : Wp (Abs.outK o k) Q := by rw [e]; exact hk
theorem Wp.callN {k : AV → AHeap → R} (e : x = some (.ret v, h1)) (hk : Wp (k v h1) Q) : Wp (Abs.callN x k) Q := by rw [e]; exact hk
theorem Wp.callK {k : AV → AHeap → R} (e : x = some (.ret v, h1)) (hk : Wp (k v h1) Q) : Wp (Abs.callK x k) Q := by rw [e]; exact hk
theorem Wp.chk (e : b = true) (hk : Wp x Q) : Wp (Abs.chk b x) Q := by rw [e]; exact hk
theorem Wp.gc (hx : Wp x fun r h' => Above h h' ∧ r.val.scal = true ∧ Q r h) : Wp (gcR h x) Q := by
 obtain ⟨r, h', e, ha, hv, q⟩ := hx
 rw [e, gcR_scal ha hv]
 exact ⟨_, _, rfl, q⟩
theorem Wp.gc' (hx : Wp x fun r h' => Q r h' ∧ (Above h h' → Q r h)) : Wp (gcR h x) Q := by
 obtain ⟨r, h', e, q1, q2⟩ := hx
 rw [e]
 unfold gcR
 split
 ·rename_i e2
  simp only [Option.some.injEq, Prod.mk.injEq] at e2
  obtain ⟨rfl, rfl⟩ := e2
  split
  ·rename_i hc
   exact ⟨_, _, rfl, q2 hc.1⟩
  ·exact ⟨_, _, rfl, q1⟩
 ·rename_i e2
  cases e2
theorem Wp.gcn (hx : Wp x fun r h' => r.val.lo h.next = false ∧ Q r h') : Wp (gcR h x) Q := by
 obtain ⟨r, h', e, hv, q⟩ := hx
 rw [e, gcR_some hv]
 exact ⟨_, _, rfl, q⟩
end
theorem sliceS_int {l : Bytes} {a b : Int} (h0 : 0 ≤ a) (h1 : a ≤ b) (h2 : b ≤ (l.length : Int)) : sliceS l a b = some ((l.drop a.toNat).take (b.toNat - a.toNat)) := by
 obtain ⟨n, rfl⟩ := Int.eq_ofNat_of_zero_le h0
 obtain ⟨m, rfl⟩ := Int.eq_ofNat_of_zero_le (Int.le_trans h0 h1)
 exact sliceS_nat (by omega) (by omega)
theorem addS_val {a b : Bytes} (h : a.length + b.length ≤ 1000000000) : addS a b = some (a ++ b) := by
 unfold addS
 rw [Nat.ble_eq_true_of_le h]
theorem nilC_ptr (b o : Nat) : nilC (.ptr b o) = some (.ptr b o) := rfl
theorem fldP_ptr (f b o : Nat) : fldP f (.ptr b o) = some (.ptr b (o + f)) := rfl
theorem newP_eq (h : AHeap) : newP h = .ptr h.next 0 := rfl
theorem bne_t {a b : Int} (h : a ≠ b) : (a != b) = true := by simp [h]
theorem bne_f {a b : Int} (h : a = b) : (a != b) = false := by simp [h]
theorem beq_t {a b : Int} (h : a = b) : (a == b) = true := by simp [h]
theorem beq_f {a b : Int} (h : a ≠ b) : (a == b) = false := by simp [h]
section
variable {Q : ARes → AHeap → Prop} {h : AHeap} {b o n : Nat} {e : TypeId} {l vs : List AV} {v : AV} {K : AHeap → R}
theorem Wp.st1 (k : RowH h b e l) (ho : o < l.length) (h1 : v.one = true) (hk : ∀ h', RowH h' b e (l.set o v) → Tch [b] h h' → h'.next = h.next → Wp (K h') Q) : Wp (Abs.obind (stRow h 1 [v] (.ptr b o)) K) Q := by
 obtain ⟨h', e1, e2, e3, e4, e5⟩ := k.st1 ho h1
 exact Wp.obind e1 (hk h' e2 (tch_of e3 e4 e5 (.inl (by simp))) e3)
theorem Wp.stN (k : RowH h b e l) (hn : vs.length = n) (ho : o + n ≤ l.length) (h1 : vs.all AV.one = true) (hk : ∀ h', RowH h' b e (laid l o vs) → Tch [b] h h' → h'.next = h.next → Wp (K h') Q) : Wp (Abs.obind (stRow h n vs (.ptr b o)) K) Q := by
 obtain ⟨h', e1, e2, e3, e4, e5⟩ := k.st hn ho h1
 exact Wp.obind e1 (hk h' e2 (tch_of e3 e4 e5 (.inl (by simp))) e3)
theorem Wp.stAll (k : RowH h b e l) (hn : vs.length = n) (hl : l.length = n) (h1 : vs.all AV.one = true) (hk : ∀ h', RowH h' b e vs → Tch [b] h h' → h'.next = h.next → Wp (K h') Q) : Wp (Abs.obind (stRow h n vs (.ptr b 0)) K) Q := by
 obtain ⟨h', e1, e2, e3, e4, e5⟩ := k.stAll hn hl h1
 exact Wp.obind e1 (hk h' e2 (tch_of e3 e4 e5 (.inl (by simp))) e3)
end
def Sli (e sz lo : Nat) (h : AHeap) (v : AV) (rows : List (List AV)) : Prop :=
 (∀ r ∈ rows, r.length = sz ∧ r.all AV.one = true) ∧ ((rows = [] ∧ v = .nsl) ∨ ∃ c, rows ≠ [] ∧ v = .sl c 0 rows.length sz ∧ lo ≤ c ∧ c < h.next ∧ RowH h c e rows.flatten)
section
variable {P : Program} {e sz lo : Nat} {h h' : AHeap} {v x : AV} {rows : List (List AV)} {r : List AV} {t u : TypeId} {S : List Nat}
theorem Sli.nil (e sz lo : Nat) (h : AHeap) : Sli e sz lo h .nsl [] := ⟨by simp, .inl ⟨rfl, rfl⟩⟩
theorem Sli.ab (k : Sli e sz lo h v rows) (hn : h.next ≤ h'.next) (hg : ∀ b, lo ≤ b → b < h.next → h'.get b = h.get b) : Sli e sz lo h' v rows := by
 refine ⟨k.1, ?_⟩
 rcases k.2 with h0 | ⟨c, h1, h2, h3, h4, h5⟩
 ·exact .inl h0
 ·exact .inr ⟨c, h1, h2, h3, by omega, h5.same (hg c h3 h4)⟩
theorem Sli.tch (k : Sli e sz lo h v rows) (ht : Tch S h h') (hS : ∀ b ∈ S, b < lo) : Sli e sz lo h' v rows :=
 k.ab ht.1 fun b h1 h2 => ht.2.2 b h2 fun hm => by have := hS b hm; omega
theorem Sli.push (k : Sli e sz lo h v rows) {B : Nat} (he : elemOf P t = some e) (hu : notInt P u = true) (hsz : P.cellsOf e = sz) (hfit : fitB P e B = true) (hex : memB e h.ex = false) (hlo : lo ≤ h.next)
  (hx : lenA x = some 1) (hf : firstA h sz 1 x = some r) (hr : r.length = sz) (hr1 : r.all AV.one = true) (hbig : (rows.length + 1) * B ≤ 1000000000) (hbig2 : rows.length + 1 ≤ 1000000000) :
  ∃ v' h', opAppend P h t u v x = some (.val v', h') ∧ Sli e sz lo h' v' (rows ++ [r]) ∧ Ab lo h h' := by
 have hall : ∀ q ∈ rows ++ [r], q.length = sz ∧ q.all AV.one = true := by
  intro q hq
  rcases List.mem_append.1 hq with hq | hq
  ·exact k.1 q hq
  ·simp at hq
   subst hq
   exact ⟨hr, hr1⟩
 have hfl : (rows ++ [r]).flatten = rows.flatten ++ r := by simp
 rcases k.2 with ⟨rfl, rfl⟩ | ⟨c, h1, rfl, h3, h4, h5⟩
 ·have a1 := append_new (P := P) (h := h) (t := t) (u := u) (n := 0) (x := x) he hu hsz hx hf (bytesFit_of hfit (by simpa using hbig) (by omega)) hr1 hex
  refine ⟨_, _, a1, ⟨hall, .inr ⟨h.next, by simp, rfl, hlo, Nat.lt_succ_self _, ?_⟩⟩, (Ab.refl lo h).new hlo _⟩
  rw [hfl]
  exact RowH.new _ _ _
 ·have hl := len_same rows (fun l hl => (k.1 l hl).1)
  have a1 := append_more (P := P) (h := h) (t := t) (u := u) (b := c) (o := 0) (m := rows.length) (n := 0) (x := x) (cs := rows.flatten) he hu hsz hx hf (bytesFit_of hfit hbig hbig2) hr1 hex (by
   have := h5.part (o := 0) (n := rows.flatten.length) (by omega)
   rw [List.drop_zero, List.take_length] at this
   rw [← hl]
   exact this) h5.type
  refine ⟨_, _, a1, ⟨hall, .inr ⟨h.next, by simp, by simp, hlo, Nat.lt_succ_self _, ?_⟩⟩, ((Ab.refl lo h).put h3 _).new (by show lo ≤ h.next; exact hlo) _⟩
  rw [hfl]
  exact RowH.new (h.put c .dead) e _
end
end
end Go.Proofs.Ytpnccmlajhhpdaa.Abs
