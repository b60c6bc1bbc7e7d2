/- What voteKept_proved stands on, part 5 of 8. -/
import Derived.Test.YteecmjmglmpbpaaKK4
import Derived.Test.YteecmjmglmpbpaaRows
import Derived.WalkKit
import Derived.ProofKit
import Derived.OpenShut
import Derived.SizedLaws
import Derived.SliceStrings
namespace Go.Proofs.Yteecmjmglmpbpaa
open Go.ChangeShapes Go.WideShapes Go.ChangeAt Go.RowKit
open Go.ChangeMaps (open_string shut_string)
theorem Try.own : ownKnob Try.prog.godebug = none := by kernel_rfl
theorem Try.laidOut : laidOutB Try.prog = true := by kernel_rfl
section
variable {H : Type} {enc : TypeId × Value → H}
theorem stays {P : Program} (hP : laidOutB P = true) {W W' : World} (hb : Below W.heap.size W W') (ts : List TypeId) : ∀ (vs : List Value) (ds : List (DataW H)) (ps : List MemPlace),
  DataW.TrodAll enc P W 0 (fun _ => true) true ts vs ds ps → (∀ t ∈ ts, P.readableRec t = true ∧ t < P.types.size) → (∀ x ∈ ps, x.block < W.heap.size) →
  DataW.TrodAll enc P W' 0 (fun b => decide (b < W.heap.size)) true ts vs ds ps := by
 induction ts with
 | nil =>
  intro vs ds ps h _ _
  obtain ⟨rfl, rfl, rfl⟩ := trodAll_nil h
  exact trodAll_mk0
 | cons t ts ih =>
  intro vs ds ps h hr hlt
  obtain ⟨v, vs', d, ds', p, q, rfl, rfl, rfl, h1, h2⟩ := trodAll_cons h
  obtain ⟨hr1, hr2⟩ := hr t (List.mem_cons_self ..)
  exact trodAll_cons_mk (Below.trod hP hr1 hr2 h1 hb (fun x hx => hlt x (List.mem_append_left _ hx))) (ih _ _ _ h2 (fun t ht => hr t (List.mem_cons_of_mem _ ht)) (fun x hx => hlt x (List.mem_append_right _ hx)))
theorem readable_of {P : Program} {ts : List TypeId} (h : (ts.all fun t => P.readableRec t && decide (t < P.types.size)) = true) : ∀ t ∈ ts, P.readableRec t = true ∧ t < P.types.size := by
 intro t ht
 have h1 := List.all_eq_true.1 h t ht
 rw [Bool.and_eq_true] at h1
 exact ⟨h1.1, of_decide_eq_true h1.2⟩
set_option maxRecDepth 100000 in
theorem lifted_of {f : FuncId} {fn : Func} {s : ChangeSpec} (hfn : Try.prog.funcs[f]? = some fn) (noInit : Try.prog.inits.idxOf? f = none) (hvars : s.vars = []) (hres : fn.resultTypes = #[4])
  (hread : (fn.params.toList.all fun t => Try.prog.readableRec t && decide (t < Try.prog.types.size)) = true)
  (hspec : ∀ (args : List Value) (ds : List (DataW H)) (W : World) (p : List MemPlace), DataW.TrodAll enc Try.prog W 0 (fun _ => true) true fn.params.toList args ds p → (s.fn H (ds ++ [])).results = [.lit (.bool true)] ∧ (s.fn H (ds ++ [])).args = ds ∧ (s.fn H (ds ++ [])).vars = [])
  (hplain : s.plain.varTypes Try.prog = [])
  (os : Os) (started : os.Started)
  (witness : ∃ (w : World) (tape : Tape) (i : Input), w.os = os ∧ (w.forCall tape i).Shaped Try.prog ∧ i.vars = [] ∧ Input.okWide Try.prog (w.forCall tape i) .any w.heap.size f i ∧
   s.pre6 enc Try.prog fn [] false (w.forCall tape i).memory i.args ∧ ({} : Assume).holds Try.prog (lone (Frame.enter Try.prog f i.args .normal) [] (w.forCall tape i)))
  (walk : ∀ (W : World) (args : Array Value) (ds : List (DataW H)) (p : List MemPlace), (∀ (j : Nat) t v, fn.params[j]? = some t → args[j]? = some v → ∃ base, Value.okWide Try.prog W .any base t v) →
   DataW.TrodAll enc Try.prog W 0 (fun _ => true) true fn.params.toList args.toList ds p → (∀ x ∈ p, x.block < W.heap.size) →
   (DataW.weightsEach Try.prog fn.params.toList ds).all (· ≤ reachBytes) = true →
   Calls Try.prog f args W fun e W' => e = .returned (.bool true) ∧ Below W.heap.size W W') :
  ReturnsInHanded {} Try.checked os f .any (s.pre6 enc Try.prog fn [] false) (s.post enc Try.prog fn false true false false) := by
 refine returnsInHanded_of_change_sized (C := Try.checked) Try.own started noInit hfn witness ?_
 intro W base args ds gs before hval hW _ hsz0 _
 have hW' := hW
 obtain ⟨p, q, hA0, hV, rfl, _, _⟩ := hW
 have hA : DataW.TrodAll enc Try.prog W 0 (fun _ => true) true fn.params.toList args.toList ds p := hA0
 rw [hvars] at hV hW'
 obtain ⟨rfl, rfl⟩ := trodVars_none hV
 simp only [List.append_nil] at hW'
 have hlt : ∀ x ∈ p, x.block < W.heap.size := fun x hx => by simpa using hW'.lt x hx
 have hsz : (DataW.weightsEach Try.prog fn.params.toList ds).all (· ≤ reachBytes) = true := by
  have h := hsz0
  rw [show s.plain.varTypes Try.checked.prog = [] from hplain] at h
  simp only [List.append_nil] at h
  exact h
 obtain ⟨er, ea, ev⟩ := hspec args.toList ds W p hA
 refine (walk W args ds p (fun j t v h1 h2 => ⟨base, hval j t v h1 h2⟩) hA hlt hsz).mono fun e W' ⟨he, hb⟩ => ?_
 subst he
 refine ⟨_, rfl, ds, [], p, [], p, [], ?_, ?_, ?_, ?_, hb.frame _, fun h => by cases h⟩
 ·rw [hvars]; exact hW'
 ·rw [er, hres]; exact trodAll_mk1 (shut_bool Try.underlying4 _)
 ·rw [ea]; exact stays Try.laidOut hb _ _ _ _ hA (readable_of hread) hlt
 ·rw [ev, hvars]; trivial
end
end Go.Proofs.Yteecmjmglmpbpaa
namespace Go.Proofs.Yteecmjmglmpbpaa
open Go.RowKit Abs
noncomputable def disk_New (_ : CallF) (_ : Nat)  (h : AHeap) : R :=
 outK (opBox h 82 (some (.agg ([.bool false, .nsl, .bool false, .nsl, .nsl, .bool false, .nsl, .bool false, .nsl, .nsl, .bool false, .nsl, .bool false, .nsl, .nsl, .bool false, .nsl, .bool false, .nsl, .nsl, .bool false, .nsl, .bool false, .nsl, .nsl, .bool false, .nsl, .bool false, .nsl, .nsl, .bool false, .nsl, .bool false, .nsl, .nsl, .bool false, .nsl, .bool false, .nsl, .nsl, .bool false, .nsl, .bool false, .nsl, .nsl, .bool false, .nsl, .bool false, .nsl, .nsl, .bool false, .nsl, .bool false, .nsl, .nsl, .bool false, .nsl, .bool false, .nsl, .nsl, .bool false, .nsl, .bool false, .nsl, .nsl, .bool false, .nsl, .bool false, .nsl, .nsl, .bool false, .nsl, .bool false, .nsl, .nsl, .bool false, .nsl, .bool false, .nsl, .nsl, .bool false, .nsl, .bool false, .nsl, .nsl, .bool false, .nsl, .bool false, .nsl, .nsl, .bool false, .nsl, .bool false, .nsl, .nsl, .bool false, .nsl, .bool false, .nsl, .nsl, .bool false, .nsl, .bool false, .nsl, .nsl, .bool false, .nsl, .bool false, .nsl, .nsl, .bool false, .nsl, .bool false, .nsl, .nsl, .bool false, .nsl, .bool false, .nsl, .nsl, .bool false, .nsl, .bool false, .nsl, .nsl, .bool false, .nsl, .bool false, .nsl, .nsl, .bool false, .nsl, .bool false, .nsl, .nsl, .bool false, .nsl, .bool false, .nsl, .nsl, .bool false, .nsl, .bool false, .nsl, .nsl, .bool false, .nsl, .bool false, .nsl, .nsl, .bool false, .nsl, .bool false, .nsl, .nsl, .bool false, .nsl, .bool false, .nsl, .nsl, .int .i64 (-1), .int .i64 0] : List AV)))) fun v2 h_3 =>
 some (.ret (v2), h_3)
set_option maxHeartbeats 4000000 in
set_option maxRecDepth 20000 in
theorem disk_New_ok {call : CallF} (_ : SaysAll Try.prog call) {n : Nat}  {h : AHeap} {rR : ARes} {hR : AHeap} (hF : disk_New call n  h = some (rR, hR)) : Says Try.prog 9 [] h rR hR := by
 unfold disk_New at hF
 refine sO Try.func9 fun w0 m0 => ?_
 refine wW [] ?_
 refine oG fun n1 => W.r ?_
 refine oA 0 AV.nilp ?_
 refine oV [] (n1 ?_)
 refine oG fun n2 => W.r ?_
 refine oA 1 (.agg ([.bool false, .nsl, .bool false, .nsl, .nsl, .bool false, .nsl, .bool false, .nsl, .nsl, .bool false, .nsl, .bool false, .nsl, .nsl, .bool false, .nsl, .bool false, .nsl, .nsl, .bool false, .nsl, .bool false, .nsl, .nsl, .bool false, .nsl, .bool false, .nsl, .nsl, .bool false, .nsl, .bool false, .nsl, .nsl, .bool false, .nsl, .bool false, .nsl, .nsl, .bool false, .nsl, .bool false, .nsl, .nsl, .bool false, .nsl, .bool false, .nsl, .nsl, .bool false, .nsl, .bool false, .nsl, .nsl, .bool false, .nsl, .bool false, .nsl, .nsl, .bool false, .nsl, .bool false, .nsl, .nsl, .bool false, .nsl, .bool false, .nsl, .nsl, .bool false, .nsl, .bool false, .nsl, .nsl, .bool false, .nsl, .bool false, .nsl, .nsl, .bool false, .nsl, .bool false, .nsl, .nsl, .bool false, .nsl, .bool false, .nsl, .nsl, .bool false, .nsl, .bool false, .nsl, .nsl, .bool false, .nsl, .bool false, .nsl, .nsl, .bool false, .nsl, .bool false, .nsl, .nsl, .bool false, .nsl, .bool false, .nsl, .nsl, .bool false, .nsl, .bool false, .nsl, .nsl, .bool false, .nsl, .bool false, .nsl, .nsl, .bool false, .nsl, .bool false, .nsl, .nsl, .bool false, .nsl, .bool false, .nsl, .nsl, .bool false, .nsl, .bool false, .nsl, .nsl, .bool false, .nsl, .bool false, .nsl, .nsl, .bool false, .nsl, .bool false, .nsl, .nsl, .bool false, .nsl, .bool false, .nsl, .nsl, .bool false, .nsl, .bool false, .nsl, .nsl, .bool false, .nsl, .bool false, .nsl, .nsl, .int .i64 (-1), .int .i64 0] : List AV)) ?_
 refine oK 2 hF fun v2 h_3 hF => ?_
 refine oA 0 v2 ?_
 refine oV [(0, v2)] (n2 (oY ?_))
 exact lZ hF [.tmp 0] [v2] (rT res_nil)
noncomputable def disk_Disk_Append (call : CallF) (_ : Nat) (t0 : AV) (t1 : Int) (t2 : Bytes) (h : AHeap) : R :=
 callN (call 45 [t0, .int .i64 t1] h) fun r10 h_4 =>
 obind (avInt .i64 r10) fun t10 =>
 lett ((t10 : Int) != 0) fun (t12 : Bool) =>
 ifB t12
 (
  some (.ret (.int .i64 t10), h_4))
 (
  obind (nilC t0) fun t18 =>
  obind (fldP 0 t18) fun t19 =>
  obind (idxA 32 5 t19 t1) fun t20 =>
  obind (fldP 2 t20) fun t21 =>
  obind (fldP 1 t21) fun t22 =>
  obind (ldCell h_4 t22) fun v23 =>
  obind (lenL v23) fun t24 =>
  lett (IntKind.i64.wrap (1048576 - t24)) fun (t25 : Int) =>
  lett (decide ((lenS t2) > t25)) fun (t26 : Bool) =>
  ifB t26
  (
   some (.ret (.int .i64 8), h_4))
  (
   callN (call 46 [t0, .int .i64 t1, .agg ([.int .i64 0, strA t2, .int .i64 0] : List AV)] h_4) fun r31 h_23 =>
   obind (avInt .i64 r31) fun t31 =>
   some (.ret (.int .i64 t31), h_23)))
set_option maxHeartbeats 4000000 in
set_option maxRecDepth 20000 in
theorem disk_Disk_Append_ok {call : CallF} (hc : SaysAll Try.prog call) {n : Nat} {t0 : AV} {t1 : Int} {t2 : Bytes} {h : AHeap} {rR : ARes} {hR : AHeap} (hF : disk_Disk_Append call n t0 t1 t2 h = some (rR, hR)) : Says Try.prog 22 [t0, .int .i64 t1, strA t2] h rR hR := by
 unfold disk_Disk_Append at hF
 refine sO Try.func22 fun w0 m0 => ?_
 refine wW [(0, t0), (1, .int .i64 t1), (2, strA t2)] ?_
 refine oG fun n1 => W.r ?_
 refine oA 6 (.int .i64 0) ?_
 refine oV [(0, t0), (1, .int .i64 t1), (2, strA t2)] (n1 ?_)
 refine oH fun n2 q2 => ?_
 refine oG fun n3 => W.r ?_
 refine oA 8 t0 ?_
 refine oA 9 (.int .i64 t1) ?_
 refine oCi hc 10 hF fun t10 h_4 hF => ?_
 refine oA 7 (.int .i64 t10) ?_
 refine oV [(0, t0), (1, .int .i64 t1), (2, strA t2), (7, .int .i64 t10)] (n3 ?_)
 refine oG fun n7 => W.r ?_
 refine oA 11 (.int .i64 t10) ?_
 refine oB 12 hF fun t12 hF => ?_
 refine oV [(0, t0), (1, .int .i64 t1), (2, strA t2), (7, .int .i64 t10), (12, .bool t12)] (n7 ?_)
 cases t12 with
 | true =>
  refine oT hF fun hF => ?_
  refine oG fun n9 => W.r ?_
  refine oA 13 (.int .i64 t10) ?_
  refine oA 6 (.int .i64 t10) ?_
  refine oV [(6, .int .i64 t10)] (n9 (oY (q2 ?_)))
  exact lZ hF [.tmp 6] [.int .i64 t10] (rT res_nil)
 | false =>
  refine oU hF fun hF => ?_
  refine oZ (n2 ?_)
  refine oH fun n10 q10 => ?_
  refine oG fun n11 => W.r ?_
  refine oA 14 (strA t2) ?_
  refine oA 15 (.int .i64 (lenS t2)) ?_
  refine oA 16 t0 ?_
  refine oA 17 (.int .i64 t1) ?_
  refine oC0 18 hF fun t18 hF => ?_
  refine oF 19 82 0 hF fun t19 hF => ?_
  refine oQ 20 80 79 .i64 hF fun t20 hF => ?_
  refine oF 21 79 1 hF fun t21 hF => ?_
  refine oF 22 76 1 hF fun t22 hF => ?_
  refine oL 23 74 hF fun v23 hF => ?_
  refine oM 24 74 5 hF fun t24 hF => ?_
  refine oI 25 .i64 hF fun t25 hF => ?_
  refine oB 26 hF fun t26 hF => ?_
  refine oV [(0, t0), (1, .int .i64 t1), (2, strA t2), (26, .bool t26)] (n11 ?_)
  cases t26 with
  | true =>
   refine oT hF fun hF => ?_
   refine oG fun n21 => W.r ?_
   refine oA 6 (.int .i64 8) ?_
   refine oV [(6, .int .i64 8)] (n21 (oY (q10 ?_)))
   exact lZ hF [.tmp 6] [.int .i64 8] (rT res_nil)
  | false =>
   refine oU hF fun hF => ?_
   refine oZ (n10 ?_)
   refine oG fun n22 => W.r ?_
   refine oA 27 t0 ?_
   refine oA 28 (.int .i64 t1) ?_
   refine oA 29 (strA t2) ?_
   refine oA 30 (.agg ([.int .i64 0, strA t2, .int .i64 0] : List AV)) ?_
   refine oCi hc 31 hF fun t31 h_23 hF => ?_
   refine oA 6 (.int .i64 t31) ?_
   refine oV [(6, .int .i64 t31)] (n22 (oY ?_))
   exact lZ hF [.tmp 6] [.int .i64 t31] (rT res_nil)
noncomputable def disk_Disk_Sync (call : CallF) (_ : Nat) (t0 : AV) (t1 : Int) (h : AHeap) : R :=
 callN (call 45 [t0, .int .i64 t1] h) fun r9 h_4 =>
 obind (avInt .i64 r9) fun t9 =>
 lett ((t9 : Int) != 0) fun (t11 : Bool) =>
 ifB t11
 (
  some (.ret (.int .i64 t9), h_4))
 (
  obind (nilC t0) fun t15 =>
  obind (fldP 0 t15) fun t16 =>
  obind (idxA 32 5 t16 t1) fun t17 =>
  obind (nilC t17) fun t19 =>
  obind (fldP 0 t19) fun t20 =>
  obind (nilC t17) fun t22 =>
  obind (fldP 4 t22) fun t23 =>
  obind (ldCell h_4 t23) fun v24 =>
  callN (call 61 [t20, v24] h_4) fun _ h_20 =>
  obind (nilC t17) fun t27 =>
  obind (fldP 4 t27) fun t28 =>
  obind (stRow h_20 1 (AV.cells AV.nsl) t28) fun h_25 =>
  callN (call 62 [t0] h_25) fun _ h_28 =>
  some (.ret (.int .i64 0), h_28))
set_option maxHeartbeats 4000000 in
set_option maxRecDepth 20000 in
theorem disk_Disk_Sync_ok {call : CallF} (hc : SaysAll Try.prog call) {n : Nat} {t0 : AV} {t1 : Int} {h : AHeap} {rR : ARes} {hR : AHeap} (hF : disk_Disk_Sync call n t0 t1 h = some (rR, hR)) : Says Try.prog 39 [t0, .int .i64 t1] h rR hR := by
 unfold disk_Disk_Sync at hF
 refine sO Try.func39 fun w0 m0 => ?_
 refine wW [(0, t0), (1, .int .i64 t1)] ?_
 refine oG fun n1 => W.r ?_
 refine oA 4 (.int .i64 0) ?_
 refine oV [(0, t0), (1, .int .i64 t1)] (n1 ?_)
 refine oH fun n2 q2 => ?_
 refine oG fun n3 => W.r ?_
 refine oA 7 t0 ?_
 refine oA 8 (.int .i64 t1) ?_
 refine oCi hc 9 hF fun t9 h_4 hF => ?_
 refine oA 5 (.int .i64 t9) ?_
 refine oV [(0, t0), (1, .int .i64 t1), (5, .int .i64 t9)] (n3 ?_)
 refine oG fun n7 => W.r ?_
 refine oA 10 (.int .i64 t9) ?_
 refine oB 11 hF fun t11 hF => ?_
 refine oV [(0, t0), (1, .int .i64 t1), (5, .int .i64 t9), (11, .bool t11)] (n7 ?_)
 cases t11 with
 | true =>
  refine oT hF fun hF => ?_
  refine oG fun n9 => W.r ?_
  refine oA 12 (.int .i64 t9) ?_
  refine oA 4 (.int .i64 t9) ?_
  refine oV [(4, .int .i64 t9)] (n9 (oY (q2 ?_)))
  exact lZ hF [.tmp 4] [.int .i64 t9] (rT res_nil)
 | false =>
  refine oU hF fun hF => ?_
  refine oZ (n2 ?_)
  refine oG fun n10 => W.r ?_
  refine oA 13 t0 ?_
  refine oA 14 (.int .i64 t1) ?_
  refine oC0 15 hF fun t15 hF => ?_
  refine oF 16 82 0 hF fun t16 hF => ?_
  refine oQ 17 80 79 .i64 hF fun t17 hF => ?_
  refine oA 6 t17 ?_
  refine oV [(0, t0), (6, t17)] (n10 ?_)
  refine oG fun n14 => ?_
  refine W.draw (by kernel_rfl) (hc.ok w0) (plan := [0, 1, 2, 3, 4, 5, 6, 7]) (by kernel_rfl) (by kernel_rfl) (by kernel_rfl) ?_
  refine WD.a 0 (some 18) t17 h_4 ?_
  obtain ⟨t19, e15, hF⟩ := obind_some hF
  refine WD.b 0 (some 19) t19 h_4 (nil_chk (h := h_4) e15) ?_
  obtain ⟨t20, e16, hF⟩ := obind_some hF
  refine WD.b 0 (some 20) t20 h_4 (field_ptr (P := Try.prog) (h := h_4) (s := 79) (f := 0) (by kernel_rfl) e16) ?_
  refine WD.a 0 (some 21) t17 h_4 ?_
  obtain ⟨t22, e17, hF⟩ := obind_some hF
  refine WD.b 0 (some 22) t22 h_4 (nil_chk (h := h_4) e17) ?_
  obtain ⟨t23, e18, hF⟩ := obind_some hF
  refine WD.b 0 (some 23) t23 h_4 (field_ptr (P := Try.prog) (h := h_4) (s := 79) (f := 2) (by kernel_rfl) e18) ?_
  obtain ⟨v24, e19, hF⟩ := obind_some hF
  refine WD.b 1 (some 24) v24 h_4 (load_cell (P := Try.prog) (h := h_4) (t := 77) (by kernel_rfl) e19) ?_
  obtain ⟨r25, h_20, e21, hF⟩ := callN_some hF
  refine WD.call (d := (some 25)) (by kernel_rfl) (by kernel_rfl) (by kernel_rfl) e21 (k := 2) (by kernel_rfl) (fun _ => (by kernel_rfl)) (by decide) ?_
  refine WD.nil ?_
  refine gW [(0, t0), (6, t17)] (n14 ?_)
  refine oG fun n22 => W.r ?_
  refine oA 26 t17 ?_
  refine oC0 27 hF fun t27 hF => ?_
  refine oF 28 79 2 hF fun t28 hF => ?_
  refine oW 77 AV.nsl hF fun h_25 hF => ?_
  refine oV [(0, t0)] (n22 ?_)
  refine oG fun n27 => W.r ?_
  refine oA 29 t0 ?_
  refine oC hc (some 30) hF fun r30 h_28 hF => ?_
  refine oV [] (n27 ?_)
  refine oG fun n30 => W.r ?_
  refine oA 4 (.int .i64 0) ?_
  refine oV [(4, .int .i64 0)] (n30 (oY ?_))
  exact lZ hF [.tmp 4] [.int .i64 0] (rT res_nil)
noncomputable def disk_Disk_Cut (call : CallF) (_ : Nat) (t0 : AV) (t1 : Int) (t2 : Int) (h : AHeap) : R :=
 callN (call 45 [t0, .int .i64 t1] h) fun r11 h_4 =>
 obind (avInt .i64 r11) fun t11 =>
 lett ((t11 : Int) != 0) fun (t13 : Bool) =>
 ifB t13
 (
  some (.ret (.int .i64 t11), h_4))
 (
  obind (nilC t0) fun t17 =>
  obind (fldP 0 t17) fun t18 =>
  obind (idxA 32 5 t18 t1) fun t19 =>
  obind (fldP 2 t19) fun t20 =>
  obind (nilC t20) fun t22 =>
  obind (fldP 0 t22) fun t23 =>
  obind (ldCell h_4 t23) fun v24 =>
  obind (avBool v24) fun t24 =>
  lett (!t24) fun (t25 : Bool) =>
  ifB t25
  (
   some (.ret (.int .i64 4), h_4))
  (
   lett (decide (t2 < 0)) fun (t27 : Bool) =>
   lett (fun (t36 : Bool) (h_26 : AHeap) =>
    ifB t36
    (
     some (.ret (.int .i64 5), h_26))
    (
     callN (call 46 [t0, .int .i64 t1, .agg ([.int .i64 1, .str 0 0, .int .i64 t2] : List AV)] h_26) fun r41 h_31 =>
     obind (avInt .i64 r41) fun t41 =>
     some (.ret (.int .i64 t41), h_31))) fun j36 =>
   ifB t27
   (
    j36 true h_4)
   (
    obind (nilC t20) fun t31 =>
    obind (fldP 1 t31) fun t32 =>
    obind (ldCell h_4 t32) fun v33 =>
    obind (lenL v33) fun t34 =>
    lett (decide (t2 > t34)) fun (t35 : Bool) =>
    j36 t35 h_4)))
set_option maxHeartbeats 4000000 in
set_option maxRecDepth 20000 in
theorem disk_Disk_Cut_ok {call : CallF} (hc : SaysAll Try.prog call) {n : Nat} {t0 : AV} {t1 : Int} {t2 : Int} {h : AHeap} {rR : ARes} {hR : AHeap} (hF : disk_Disk_Cut call n t0 t1 t2 h = some (rR, hR)) : Says Try.prog 55 [t0, .int .i64 t1, .int .i64 t2] h rR hR := by
 unfold disk_Disk_Cut at hF
 refine sO Try.func55 fun w0 m0 => ?_
 refine wW [(0, t0), (1, .int .i64 t1), (2, .int .i64 t2)] ?_
 refine oG fun n1 => W.r ?_
 refine oA 6 (.int .i64 0) ?_
 refine oV [(0, t0), (1, .int .i64 t1), (2, .int .i64 t2)] (n1 ?_)
 refine oH fun n2 q2 => ?_
 refine oG fun n3 => W.r ?_
 refine oA 9 t0 ?_
 refine oA 10 (.int .i64 t1) ?_
 refine oCi hc 11 hF fun t11 h_4 hF => ?_
 refine oA 7 (.int .i64 t11) ?_
 refine oV [(0, t0), (1, .int .i64 t1), (2, .int .i64 t2), (7, .int .i64 t11)] (n3 ?_)
 refine oG fun n7 => W.r ?_
 refine oA 12 (.int .i64 t11) ?_
 refine oB 13 hF fun t13 hF => ?_
 refine oV [(0, t0), (1, .int .i64 t1), (2, .int .i64 t2), (7, .int .i64 t11), (13, .bool t13)] (n7 ?_)
 cases t13 with
 | true =>
  refine oT hF fun hF => ?_
  refine oG fun n9 => W.r ?_
  refine oA 14 (.int .i64 t11) ?_
  refine oA 6 (.int .i64 t11) ?_
  refine oV [(6, .int .i64 t11)] (n9 (oY (q2 ?_)))
  exact lZ hF [.tmp 6] [.int .i64 t11] (rT res_nil)
 | false =>
  refine oU hF fun hF => ?_
  refine oZ (n2 ?_)
  refine oG fun n10 => W.r ?_
  refine oA 15 t0 ?_
  refine oA 16 (.int .i64 t1) ?_
  refine oC0 17 hF fun t17 hF => ?_
  refine oF 18 82 0 hF fun t18 hF => ?_
  refine oQ 19 80 79 .i64 hF fun t19 hF => ?_
  refine oF 20 79 1 hF fun t20 hF => ?_
  refine oA 8 t20 ?_
  refine oV [(0, t0), (1, .int .i64 t1), (2, .int .i64 t2), (8, t20)] (n10 ?_)
  refine oH fun n15 q15 => ?_
  refine oG fun n16 => W.r ?_
  refine oA 21 t20 ?_
  refine oC0 22 hF fun t22 hF => ?_
  refine oF 23 76 0 hF fun t23 hF => ?_
  refine oLb 24 4 hF fun t24 hF => ?_
  refine oB 25 hF fun t25 hF => ?_
  refine oV [(0, t0), (1, .int .i64 t1), (2, .int .i64 t2), (8, t20), (25, .bool t25)] (n16 ?_)
  cases t25 with
  | true =>
   refine oT hF fun hF => ?_
   refine oG fun n22 => W.r ?_
   refine oA 6 (.int .i64 4) ?_
   refine oV [(6, .int .i64 4)] (n22 (oY (q15 ?_)))
   exact lZ hF [.tmp 6] [.int .i64 4] (rT res_nil)
  | false =>
   refine oU hF fun hF => ?_
   refine oZ (n15 ?_)
   refine oH fun n23 q23 => ?_
   refine W.s (fun K24 n24 e24 q24 p24 => ?_)
   refine W.r ?_
   refine oA 26 (.int .i64 t2) ?_
   refine oB 27 hF fun t27 hF => ?_
   refine oA 28 (.bool t27) ?_
   obtain ⟨j36, e27, hF⟩ := lett_some hF
   have J28 : ∀ (t36 : Bool) (h_26 : AHeap), j36 t36 h_26 = some (rR, hR) → WL Try.prog w0 m0 (Func.ntmps Try.f55) (Code.ops (Code.p1 (Code.p1 (Code.p2 (Code.p2 (Code.p2 (Code.p2 (codeOf Try.f55)))))))) 11 K24 [(0, t0), (1, .int .i64 t1), (2, .int .i64 t2), (36, .bool t36)] [] h_26 := by
    intro t36 h_26 hF
    rw [e27] at hF
    refine oV [(0, t0), (1, .int .i64 t1), (2, .int .i64 t2), (36, .bool t36)] (n24 ?_)
    cases t36 with
    | true =>
     refine oT hF fun hF => ?_
     refine oG fun n29 => W.r ?_
     refine oA 6 (.int .i64 5) ?_
     refine oV [(6, .int .i64 5)] (n29 (oY (q23 ?_)))
     exact lZ hF [.tmp 6] [.int .i64 5] (rT res_nil)
    | false =>
     refine oU hF fun hF => ?_
     refine oZ (n23 ?_)
     refine oG fun n30 => W.r ?_
     refine oA 37 t0 ?_
     refine oA 38 (.int .i64 t1) ?_
     refine oA 39 (.int .i64 t2) ?_
     refine oA 40 (.agg ([.int .i64 1, .str 0 0, .int .i64 t2] : List AV)) ?_
     refine oCi hc 41 hF fun t41 h_31 hF => ?_
     refine oA 6 (.int .i64 t41) ?_
     refine oV [(6, .int .i64 t41)] (n30 (oY ?_))
     exact lZ hF [.tmp 6] [.int .i64 t41] (rT res_nil)
   cases t27 with
   | true =>
    replace hF := ifB_t hF
    refine WL.o (some 29) ?_
    refine WL.o (some 30) ?_
    refine WL.o (some 31) ?_
    refine WL.o (some 32) ?_
    refine WL.o (some 33) ?_
    refine WL.o (some 34) ?_
    refine WL.o (some 35) ?_
    refine oA 36 (.bool true) ?_
    exact lW _ (J28 _ _ hF)
   | false =>
    replace hF := ifB_f hF
    refine oA 29 (.int .i64 t2) ?_
    refine oA 30 t20 ?_
    refine oC0 31 hF fun t31 hF => ?_
    refine oF 32 76 1 hF fun t32 hF => ?_
    refine oL 33 74 hF fun v33 hF => ?_
    refine oM 34 74 5 hF fun t34 hF => ?_
    refine oB 35 hF fun t35 hF => ?_
    refine oA 36 (.bool t35) ?_
    exact lW _ (J28 _ _ hF)
noncomputable def disk_Disk_Remove (call : CallF) (_ : Nat) (t0 : AV) (t1 : Int) (h : AHeap) : R :=
 callN (call 45 [t0, .int .i64 t1] h) fun r8 h_4 =>
 obind (avInt .i64 r8) fun t8 =>
 lett ((t8 : Int) != 0) fun (t10 : Bool) =>
 ifB t10
 (
  some (.ret (.int .i64 t8), h_4))
 (
  obind (nilC t0) fun t14 =>
  obind (fldP 0 t14) fun t15 =>
  obind (idxA 32 5 t15 t1) fun t16 =>
  obind (fldP 2 t16) fun t17 =>
  obind (fldP 0 t17) fun t18 =>
  obind (ldCell h_4 t18) fun v19 =>
  obind (avBool v19) fun t19 =>
  lett (!t19) fun (t20 : Bool) =>
  ifB t20
  (
   some (.ret (.int .i64 4), h_4))
  (
   callN (call 46 [t0, .int .i64 t1, .agg ([.int .i64 2, .str 0 0, .int .i64 0] : List AV)] h_4) fun r24 h_22 =>
   obind (avInt .i64 r24) fun t24 =>
   some (.ret (.int .i64 t24), h_22)))
set_option maxHeartbeats 4000000 in
set_option maxRecDepth 20000 in
theorem disk_Disk_Remove_ok {call : CallF} (hc : SaysAll Try.prog call) {n : Nat} {t0 : AV} {t1 : Int} {h : AHeap} {rR : ARes} {hR : AHeap} (hF : disk_Disk_Remove call n t0 t1 h = some (rR, hR)) : Says Try.prog 36 [t0, .int .i64 t1] h rR hR := by
 unfold disk_Disk_Remove at hF
 refine sO Try.func36 fun w0 m0 => ?_
 refine wW [(0, t0), (1, .int .i64 t1)] ?_
 refine oG fun n1 => W.r ?_
 refine oA 4 (.int .i64 0) ?_
 refine oV [(0, t0), (1, .int .i64 t1)] (n1 ?_)
 refine oH fun n2 q2 => ?_
 refine oG fun n3 => W.r ?_
 refine oA 6 t0 ?_
 refine oA 7 (.int .i64 t1) ?_
 refine oCi hc 8 hF fun t8 h_4 hF => ?_
 refine oA 5 (.int .i64 t8) ?_
 refine oV [(0, t0), (1, .int .i64 t1), (5, .int .i64 t8)] (n3 ?_)
 refine oG fun n7 => W.r ?_
 refine oA 9 (.int .i64 t8) ?_
 refine oB 10 hF fun t10 hF => ?_
 refine oV [(0, t0), (1, .int .i64 t1), (5, .int .i64 t8), (10, .bool t10)] (n7 ?_)
 cases t10 with
 | true =>
  refine oT hF fun hF => ?_
  refine oG fun n9 => W.r ?_
  refine oA 11 (.int .i64 t8) ?_
  refine oA 4 (.int .i64 t8) ?_
  refine oV [(4, .int .i64 t8)] (n9 (oY (q2 ?_)))
  exact lZ hF [.tmp 4] [.int .i64 t8] (rT res_nil)
 | false =>
  refine oU hF fun hF => ?_
  refine oZ (n2 ?_)
  refine oH fun n10 q10 => ?_
  refine oG fun n11 => W.r ?_
  refine oA 12 t0 ?_
  refine oA 13 (.int .i64 t1) ?_
  refine oC0 14 hF fun t14 hF => ?_
  refine oF 15 82 0 hF fun t15 hF => ?_
  refine oQ 16 80 79 .i64 hF fun t16 hF => ?_
  refine oF 17 79 1 hF fun t17 hF => ?_
  refine oF 18 76 0 hF fun t18 hF => ?_
  refine oLb 19 4 hF fun t19 hF => ?_
  refine oB 20 hF fun t20 hF => ?_
  refine oV [(0, t0), (1, .int .i64 t1), (20, .bool t20)] (n11 ?_)
  cases t20 with
  | true =>
   refine oT hF fun hF => ?_
   refine oG fun n20 => W.r ?_
   refine oA 4 (.int .i64 4) ?_
   refine oV [(4, .int .i64 4)] (n20 (oY (q10 ?_)))
   exact lZ hF [.tmp 4] [.int .i64 4] (rT res_nil)
  | false =>
   refine oU hF fun hF => ?_
   refine oZ (n10 ?_)
   refine oG fun n21 => W.r ?_
   refine oA 21 t0 ?_
   refine oA 22 (.int .i64 t1) ?_
   refine oA 23 (.agg ([.int .i64 2, .str 0 0, .int .i64 0] : List AV)) ?_
   refine oCi hc 24 hF fun t24 h_22 hF => ?_
   refine oA 4 (.int .i64 t24) ?_
   refine oV [(4, .int .i64 t24)] (n21 (oY ?_))
   exact lZ hF [.tmp 4] [.int .i64 t24] (rT res_nil)
noncomputable def disk_Disk_Power (_ : CallF) (_ : Nat) (t0 : AV) (t1 : Int) (h : AHeap) : R :=
 outK (opBin Try.prog h .eql 23 true (some t0) (some AV.nilp)) fun v6 h_4 =>
 obind (avBool v6) fun t6 =>
 ifB t6
 (
  some (.ret (.int .i64 1), h_4))
 (
  lett (if (-1) > t1 then (-1) else t1) fun (t9 : Int) =>
  obind (nilC t0) fun t10 =>
  obind (fldP 160 t10) fun t11 =>
  obind (stRow h_4 1 [.int .i64 t9] t11) fun h_12 =>
  some (.ret (.int .i64 0), h_12))
set_option maxHeartbeats 4000000 in
set_option maxRecDepth 20000 in
theorem disk_Disk_Power_ok {call : CallF} (_ : SaysAll Try.prog call) {n : Nat} {t0 : AV} {t1 : Int} {h : AHeap} {rR : ARes} {hR : AHeap} (hF : disk_Disk_Power call n t0 t1 h = some (rR, hR)) : Says Try.prog 14 [t0, .int .i64 t1] h rR hR := by
 unfold disk_Disk_Power at hF
 refine sO Try.func14 fun w0 m0 => ?_
 refine wW [(0, t0), (1, .int .i64 t1)] ?_
 refine oG fun n1 => W.r ?_
 refine oA 4 (.int .i64 0) ?_
 refine oV [(0, t0), (1, .int .i64 t1)] (n1 ?_)
 refine oH fun n2 q2 => ?_
 refine oG fun n3 => W.r ?_
 refine oA 5 t0 ?_
 replace hF := outK_some hF; obtain ⟨v6, h_4, e5, hF⟩ := hF
 replace hF := obind_some hF; obtain ⟨t6, c6, hF⟩ := hF
 have c6 := avBool_some c6
 subst c6
 refine WL.b (some 6) (.bool t6) h_4 e5 ?_
 refine oV [(0, t0), (1, .int .i64 t1), (6, .bool t6)] (n3 ?_)
 cases t6 with
 | true =>
  refine oT hF fun hF => ?_
  refine oG fun n7 => W.r ?_
  refine oA 4 (.int .i64 1) ?_
  refine oV [(4, .int .i64 1)] (n7 (oY (q2 ?_)))
  exact lZ hF [.tmp 4] [.int .i64 1] (rT res_nil)
 | false =>
  refine oU hF fun hF => ?_
  refine oZ (n2 ?_)
  refine oG fun n8 => W.r ?_
  refine oA 7 t0 ?_
  refine oA 8 (.int .i64 t1) ?_
  refine oI 9 .i64 hF fun t9 hF => ?_
  refine oC0 10 hF fun t10 hF => ?_
  refine oF 11 82 1 hF fun t11 hF => ?_
  refine oW 3 (.int .i64 t9) hF fun h_12 hF => ?_
  refine oV [] (n8 ?_)
  refine oG fun n14 => W.r ?_
  refine oA 4 (.int .i64 0) ?_
  refine oV [(4, .int .i64 0)] (n14 (oY ?_))
  exact lZ hF [.tmp 4] [.int .i64 0] (rT res_nil)
noncomputable def disk_Disk_On (_ : CallF) (_ : Nat) (t0 : AV) (h : AHeap) : R :=
 outK (opBin Try.prog h .neq 23 true (some t0) (some AV.nilp)) fun v4 h_3 =>
 obind (avBool v4) fun t4 =>
 lett (fun (t11 : Bool) (h_6 : AHeap) =>
  some (.ret (.bool t11), h_6)) fun j11 =>
 ifB t4
 (
  obind (nilC t0) fun t7 =>
  obind (fldP 160 t7) fun t8 =>
  obind (ldCell h_3 t8) fun v9 =>
  obind (avInt .i64 v9) fun t9 =>
  lett ((t9 : Int) != 0) fun (t10 : Bool) =>
  j11 t10 h_3)
 (
  j11 false h_3)
set_option maxHeartbeats 4000000 in
set_option maxRecDepth 20000 in
theorem disk_Disk_On_ok {call : CallF} (_ : SaysAll Try.prog call) {n : Nat} {t0 : AV} {h : AHeap} {rR : ARes} {hR : AHeap} (hF : disk_Disk_On call n t0 h = some (rR, hR)) : Says Try.prog 28 [t0] h rR hR := by
 unfold disk_Disk_On at hF
 refine sO Try.func28 fun w0 m0 => ?_
 refine wW [(0, t0)] ?_
 refine oG fun n1 => W.r ?_
 refine oA 2 (.bool false) ?_
 refine oV [(0, t0)] (n1 ?_)
 refine W.s (fun K2 n2 e2 q2 p2 => ?_)
 refine W.r ?_
 refine oA 3 t0 ?_
 replace hF := outK_some hF; obtain ⟨v4, h_3, e4, hF⟩ := hF
 replace hF := obind_some hF; obtain ⟨t4, c5, hF⟩ := hF
 have c5 := avBool_some c5
 subst c5
 refine WL.b (some 4) (.bool t4) h_3 e4 ?_
 refine oA 5 (.bool t4) ?_
 obtain ⟨j11, e7, hF⟩ := lett_some hF
 have J8 : ∀ (t11 : Bool) (h_6 : AHeap), j11 t11 h_6 = some (rR, hR) → WL Try.prog w0 m0 (Func.ntmps Try.f28) (Code.ops (Code.p1 (Code.p2 (codeOf Try.f28)))) 9 K2 [(11, .bool t11)] [] h_6 := by
  intro t11 h_6 hF
  rw [e7] at hF
  refine oA 2 (.bool t11) ?_
  refine oV [(2, .bool t11)] (n2 (oY ?_))
  exact lZ hF [.tmp 2] [.bool t11] (rT res_nil)
 cases t4 with
 | true =>
  replace hF := ifB_t hF
  refine oA 6 t0 ?_
  refine oC0 7 hF fun t7 hF => ?_
  refine oF 8 82 1 hF fun t8 hF => ?_
  refine oLi 9 3 hF fun t9 hF => ?_
  refine oB 10 hF fun t10 hF => ?_
  refine oA 11 (.bool t10) ?_
  exact lW _ (J8 _ _ hF)
 | false =>
  replace hF := ifB_f hF
  refine WL.o (some 6) ?_
  refine WL.o (some 7) ?_
  refine WL.o (some 8) ?_
  refine WL.o (some 9) ?_
  refine WL.o (some 10) ?_
  refine oA 11 (.bool false) ?_
  exact lW _ (J8 _ _ hF)
noncomputable def disk_Disk_Ops (_ : CallF) (_ : Nat) (t0 : AV) (h : AHeap) : R :=
 outK (opBin Try.prog h .eql 23 true (some t0) (some AV.nilp)) fun v4 h_4 =>
 obind (avBool v4) fun t4 =>
 ifB t4
 (
  some (.ret (.int .i64 0), h_4))
 (
  obind (nilC t0) fun t6 =>
  obind (fldP 161 t6) fun t7 =>
  obind (ldCell h_4 t7) fun v8 =>
  obind (avInt .i64 v8) fun t8 =>
  some (.ret (.int .i64 t8), h_4))
set_option maxHeartbeats 4000000 in
set_option maxRecDepth 20000 in
theorem disk_Disk_Ops_ok {call : CallF} (_ : SaysAll Try.prog call) {n : Nat} {t0 : AV} {h : AHeap} {rR : ARes} {hR : AHeap} (hF : disk_Disk_Ops call n t0 h = some (rR, hR)) : Says Try.prog 13 [t0] h rR hR := by
 unfold disk_Disk_Ops at hF
 refine sO Try.func13 fun w0 m0 => ?_
 refine wW [(0, t0)] ?_
 refine oG fun n1 => W.r ?_
 refine oA 2 (.int .i64 0) ?_
 refine oV [(0, t0)] (n1 ?_)
 refine oH fun n2 q2 => ?_
 refine oG fun n3 => W.r ?_
 refine oA 3 t0 ?_
 replace hF := outK_some hF; obtain ⟨v4, h_4, e5, hF⟩ := hF
 replace hF := obind_some hF; obtain ⟨t4, c6, hF⟩ := hF
 have c6 := avBool_some c6
 subst c6
 refine WL.b (some 4) (.bool t4) h_4 e5 ?_
 refine oV [(0, t0), (4, .bool t4)] (n3 ?_)
 cases t4 with
 | true =>
  refine oT hF fun hF => ?_
  refine oG fun n7 => W.r ?_
  refine oA 2 (.int .i64 0) ?_
  refine oV [(2, .int .i64 0)] (n7 (oY (q2 ?_)))
  exact lZ hF [.tmp 2] [.int .i64 0] (rT res_nil)
 | false =>
  refine oU hF fun hF => ?_
  refine oZ (n2 ?_)
  refine oG fun n8 => W.r ?_
  refine oA 5 t0 ?_
  refine oC0 6 hF fun t6 hF => ?_
  refine oF 7 82 2 hF fun t7 hF => ?_
  refine oLi 8 3 hF fun t8 hF => ?_
  refine oA 2 (.int .i64 t8) ?_
  refine oV [(2, .int .i64 t8)] (n8 (oY ?_))
  exact lZ hF [.tmp 2] [.int .i64 t8] (rT res_nil)
noncomputable def disk_Disk_refuses (call : CallF) (_ : Nat) (t0 : AV) (t1 : Int) (h : AHeap) : R :=
 outK (opBin Try.prog h .eql 23 true (some t0) (some AV.nilp)) fun v7 h_5 =>
 obind (avBool v7) fun t7 =>
 ifB t7
 (
  some (.ret (.int .i64 1), h_5))
 (
  callN (call 28 [t0] h_5) fun r10 h_10 =>
  obind (avBool r10) fun t10 =>
  lett (!t10) fun (t11 : Bool) =>
  ifB t11
  (
   some (.ret (.int .i64 40), h_10))
  (
   callN (call 51 [.int .i64 t1] h_10) fun r14 h_16 =>
   obind (avBool r14) fun t14 =>
   lett (!t14) fun (t15 : Bool) =>
   ifB t15
   (
    some (.ret (.int .i64 2), h_16))
   (
    some (.ret (.int .i64 0), h_16))))
set_option maxHeartbeats 4000000 in
set_option maxRecDepth 20000 in
theorem disk_Disk_refuses_ok {call : CallF} (hc : SaysAll Try.prog call) {n : Nat} {t0 : AV} {t1 : Int} {h : AHeap} {rR : ARes} {hR : AHeap} (hF : disk_Disk_refuses call n t0 t1 h = some (rR, hR)) : Says Try.prog 45 [t0, .int .i64 t1] h rR hR := by
 unfold disk_Disk_refuses at hF
 refine sO Try.func45 fun w0 m0 => ?_
 refine wW [(0, t0), (1, .int .i64 t1)] ?_
 refine oG fun n1 => W.r ?_
 refine oA 4 (.int .i64 0) ?_
 refine oV [(0, t0), (1, .int .i64 t1)] (n1 ?_)
 refine oH fun n2 q2 => ?_
 refine W.blockK (by kernel_rfl) (fun K3 n3 s3 o3 q3 p3 => ?_)
 refine oG fun n4 => W.r ?_
 refine oA 6 t0 ?_
 replace hF := outK_some hF; obtain ⟨v7, h_5, e6, hF⟩ := hF
 replace hF := obind_some hF; obtain ⟨t7, c7, hF⟩ := hF
 have c7 := avBool_some c7
 subst c7
 refine WL.b (some 7) (.bool t7) h_5 e6 ?_
 refine oA 5 (.bool t7) ?_
 refine oV [(0, t0), (1, .int .i64 t1), (5, .bool t7)] (n4 ?_)
 cases t7 with
 | true =>
  refine oT hF fun hF => ?_
  refine oG fun n8 => W.r ?_
  refine oA 4 (.int .i64 1) ?_
  refine oV [(4, .int .i64 1)] (n8 (oY (q3 (q2 ?_))))
  exact lZ hF [.tmp 4] [.int .i64 1] (rT res_nil)
 | false =>
  refine oU hF fun hF => ?_
  refine oG fun n9 => W.r ?_
  refine oA 9 t0 ?_
  refine oCb hc 10 hF fun t10 h_10 hF => ?_
  refine oB 11 hF fun t11 hF => ?_
  refine oA 8 (.bool t11) ?_
  refine oV [(1, .int .i64 t1), (8, .bool t11)] (n9 ?_)
  cases t11 with
  | true =>
   refine oT hF fun hF => ?_
   refine oG fun n14 => W.r ?_
   refine oA 4 (.int .i64 40) ?_
   refine oV [(4, .int .i64 40)] (n14 (oY (q3 (q2 ?_))))
   exact lZ hF [.tmp 4] [.int .i64 40] (rT res_nil)
  | false =>
   refine oU hF fun hF => ?_
   refine oG fun n15 => W.r ?_
   refine oA 13 (.int .i64 t1) ?_
   refine oCb hc 14 hF fun t14 h_16 hF => ?_
   refine oB 15 hF fun t15 hF => ?_
   refine oA 12 (.bool t15) ?_
   refine oV [(12, .bool t15)] (n15 ?_)
   cases t15 with
   | true =>
    refine oT hF fun hF => ?_
    refine oG fun n20 => W.r ?_
    refine oA 4 (.int .i64 2) ?_
    refine oV [(4, .int .i64 2)] (n20 (oY (q3 (q2 ?_))))
    exact lZ hF [.tmp 4] [.int .i64 2] (rT res_nil)
   | false =>
    refine oU hF fun hF => ?_
    refine oZ (n3 (n2 ?_))
    refine oG fun n21 => W.r ?_
    refine oA 4 (.int .i64 0) ?_
    refine oV [(4, .int .i64 0)] (n21 (oY ?_))
    exact lZ hF [.tmp 4] [.int .i64 0] (rT res_nil)
noncomputable def disk_Disk_change (call : CallF) (_ : Nat) (t0 : AV) (t1 : Int) (t2 : List AV) (h : AHeap) : R :=
 outK (opBox h 110 (some (.agg t2))) fun v5 h_2 =>
 obind (nilC t0) fun t10 =>
 obind (fldP 0 t10) fun t11 =>
 obind (idxA 32 5 t11 t1) fun t12 =>
 obind (nilC t12) fun t14 =>
 obind (fldP 2 t14) fun t15 =>
 obind (ldRow h_2 3 v5) fun t16 =>
 outK (bldSl Try.prog h_2 77 1 [(0, .agg t16)]) fun v17 h_12 =>
 callN (call 61 [t15, v17] h_12) fun _ h_14 =>
 obind (nilC t12) fun t21 =>
 obind (fldP 4 t21) fun t22 =>
 obind (ldCell h_14 t22) fun v23 =>
 obind (ldRow h_14 3 v5) fun t24 =>
 outK (bldSl Try.prog h_14 77 1 [(0, .agg t24)]) fun v25 h_21 =>
 chk (true && (reLoad Try.prog h_21 77 t22 v23 && true)) <|
 outK (opAppend Try.prog h_21 77 77 v23 v25) fun v26 h_24 =>
 obind (nilC t12) fun t27 =>
 obind (fldP 4 t27) fun t28 =>
 obind (stRow h_24 1 (AV.cells v26) t28) fun h_28 =>
 callN (call 62 [t0] h_28) fun _ h_31 =>
 some (.ret (.int .i64 0), h_31)
set_option maxHeartbeats 4000000 in
set_option maxRecDepth 20000 in
theorem disk_Disk_change_ok {call : CallF} (hc : SaysAll Try.prog call) {n : Nat} {t0 : AV} {t1 : Int} {t2 : List AV} {h : AHeap} {rR : ARes} {hR : AHeap} (hF : disk_Disk_change call n t0 t1 t2 h = some (rR, hR)) : Says Try.prog 46 [t0, .int .i64 t1, .agg t2] h rR hR := by
 unfold disk_Disk_change at hF
 refine sO Try.func46 fun w0 m0 => ?_
 refine wW [(0, t0), (1, .int .i64 t1), (2, .agg t2)] ?_
 refine oG fun n1 => W.r ?_
 refine oK 5 hF fun v5 h_2 hF => ?_
 refine oA 6 (.int .i64 0) ?_
 refine oV [(0, t0), (1, .int .i64 t1), (5, v5)] (n1 ?_)
 refine oG fun n4 => W.r ?_
 refine oA 8 t0 ?_
 refine oA 9 (.int .i64 t1) ?_
 refine oC0 10 hF fun t10 hF => ?_
 refine oF 11 82 0 hF fun t11 hF => ?_
 refine oQ 12 80 79 .i64 hF fun t12 hF => ?_
 refine oA 7 t12 ?_
 refine oV [(0, t0), (5, v5), (7, t12)] (n4 ?_)
 refine oG fun n8 => ?_
 refine W.draw (by kernel_rfl) (hc.ok w0) (plan := [0, 1, 2, 3, 4, 5]) (by kernel_rfl) (by kernel_rfl) (by kernel_rfl) ?_
 refine WD.a 0 (some 13) t12 h_2 ?_
 obtain ⟨t14, e9, hF⟩ := obind_some hF
 refine WD.b 0 (some 14) t14 h_2 (nil_chk (h := h_2) e9) ?_
 obtain ⟨t15, e10, hF⟩ := obind_some hF
 refine WD.b 0 (some 15) t15 h_2 (field_ptr (P := Try.prog) (h := h_2) (s := 79) (f := 1) (by kernel_rfl) e10) ?_
 obtain ⟨t16, e11, hF⟩ := obind_some hF
 refine WD.b 1 (some 16) (.agg t16) h_2 (load_row (P := Try.prog) (h := h_2) (t := 110) (by kernel_rfl) (by kernel_rfl) e11) ?_
 obtain ⟨v17, h_12, e13, hF⟩ := outK_some hF
 refine WD.val (d := (some 17)) (v := v17) (h' := h_12) (by kernel_rfl) (by kernel_rfl) (Eq.trans (by kernel_rfl) e13) (k := 2) (by kernel_rfl) (fun _ => (by kernel_rfl)) (by decide) ?_
 obtain ⟨r18, h_14, e15, hF⟩ := callN_some hF
 refine WD.call (d := (some 18)) (by kernel_rfl) (by kernel_rfl) (by kernel_rfl) e15 (k := 2) (by kernel_rfl) (fun _ => (by kernel_rfl)) (by decide) ?_
 refine WD.nil ?_
 refine gW [(0, t0), (5, v5), (7, t12)] (n8 ?_)
 refine oG fun n16 => ?_
 refine W.draw (by kernel_rfl) (hc.ok w0) (plan := [0, 1, 2, 3, 4, 5, 6, 7, 8, 9, 10]) (by kernel_rfl) (by kernel_rfl) (by kernel_rfl) ?_
 refine WD.a 0 (some 19) t12 h_14 ?_
 refine WD.a 0 (some 20) t12 h_14 ?_
 obtain ⟨t21, e17, hF⟩ := obind_some hF
 refine WD.b 0 (some 21) t21 h_14 (nil_chk (h := h_14) e17) ?_
 obtain ⟨t22, e18, hF⟩ := obind_some hF
 refine WD.b 0 (some 22) t22 h_14 (field_ptr (P := Try.prog) (h := h_14) (s := 79) (f := 2) (by kernel_rfl) e18) ?_
 obtain ⟨v23, e19, hF⟩ := obind_some hF
 refine WD.b 1 (some 23) v23 h_14 (load_cell (P := Try.prog) (h := h_14) (t := 77) (by kernel_rfl) e19) ?_
 obtain ⟨t24, e20, hF⟩ := obind_some hF
 refine WD.b 1 (some 24) (.agg t24) h_14 (load_row (P := Try.prog) (h := h_14) (t := 110) (by kernel_rfl) (by kernel_rfl) e20) ?_
 obtain ⟨v25, h_21, e22, hF⟩ := outK_some hF
 obtain ⟨k23, hF⟩ := chk_some hF
 refine WD.val (d := (some 25)) (v := v25) (h' := h_21) (by kernel_rfl) (by kernel_rfl) (Eq.trans (by kernel_rfl) e22) (k := 2) (by kernel_rfl) (fun _ => (Eq.trans (by kernel_rfl) k23)) (by decide) ?_
 obtain ⟨v26, h_24, e25, hF⟩ := outK_some hF
 refine WD.val (d := (some 26)) (v := v26) (h' := h_24) (by kernel_rfl) (by kernel_rfl) (Eq.trans (by kernel_rfl) e25) (k := 2) (by kernel_rfl) (fun _ => (by kernel_rfl)) (by decide) ?_
 obtain ⟨t27, e26, hF⟩ := obind_some hF
 refine WD.b 0 (some 27) t27 h_24 (nil_chk (h := h_24) e26) ?_
 obtain ⟨t28, e27, hF⟩ := obind_some hF
 refine WD.b 0 (some 28) t28 h_24 (field_ptr (P := Try.prog) (h := h_24) (s := 79) (f := 2) (by kernel_rfl) e27) ?_
 obtain ⟨h_28, e29, hF⟩ := obind_some hF
 refine WD.eff (h' := h_28) (by kernel_rfl) (by kernel_rfl) (Eq.trans (by kernel_rfl) (store_row (P := Try.prog) (h := h_24) (t := 77) (v := v26) (by kernel_rfl) (by kernel_rfl) e29)) (k := 2) (by kernel_rfl) (fun _ => (by kernel_rfl)) (by decide) ?_
 refine WD.nil ?_
 refine gW [(0, t0)] (n16 ?_)
 refine oG fun n30 => W.r ?_
 refine oA 29 t0 ?_
 refine oC hc (some 30) hF fun r30 h_31 hF => ?_
 refine oV [] (n30 ?_)
 refine oG fun n33 => W.r ?_
 refine oA 6 (.int .i64 0) ?_
 refine oV [(6, .int .i64 0)] (n33 (oY ?_))
 exact lZ hF [.tmp 6] [.int .i64 0] (rT res_nil)
noncomputable def disk_content_do_L0b (t0 : AV) (t1 : AV) (t7 : Int) (k4 : AHeap → R) (self : Int → AHeap → R) (t8 : Int) (h_7 : AHeap) : R :=
 lett (decide (t8 < t7)) fun (t9 : Bool) =>
 ifB t9
 (
  obind (idxP 3 t1 t8) fun t10 =>
  obind (ldRow h_7 3 t10) fun t11 =>
  lett (newH h_7 110 [.int .i64 0, .str 0 0, .int .i64 0]) fun h_16 =>
  obind (stRow h_16 3 t11 (newP h_7)) fun h_18 =>
  obind (ldCell h_18 (AV.ptr (AHeap.next h_7) 0)) fun v13 =>
  obind (avInt .i64 v13) fun t13 =>
  lett ((t13 : Int) == 0) fun (t15 : Bool) =>
  lett (fun  (h_27 : AHeap) =>
   lett (IntKind.i64.wrap (t8 + 1)) fun (t46 : Int) =>
   self t46 h_27) fun k26 =>
  ifB t15
  (
   obind (nilC t0) fun t17 =>
   obind (fldP 0 t17) fun t18 =>
   obind (stRow h_18 1 [.bool true] t18) fun h_32 =>
   obind (nilC t0) fun t21 =>
   obind (fldP 1 t21) fun t22 =>
   obind (ldCell h_32 t22) fun v23 =>
   obind (ldCell h_32 (AV.ptr (AHeap.next h_7) 1)) fun v25 =>
   obind (avStr v25) fun t25 =>
   outK (opAppend Try.prog h_32 74 9 v23 (strA t25)) fun v26 h_39 =>
   obind (nilC t0) fun t27 =>
   obind (fldP 1 t27) fun t28 =>
   obind (stRow h_39 1 (AV.cells v26) t28) fun h_43 =>
   k26 h_43)
  (
   lett ((t13 : Int) == 1) fun (t30 : Bool) =>
   lett (fun  (h_48 : AHeap) =>
    k26 h_48) fun k47 =>
   ifB t30
   (
    obind (nilC t0) fun t33 =>
    obind (fldP 1 t33) fun t34 =>
    obind (ldCell h_18 t34) fun v35 =>
    obind (ldCell h_18 (AV.ptr (AHeap.next h_7) 2)) fun v37 =>
    obind (avInt .i64 v37) fun t37 =>
    outK (sliceA Try.prog h_18 74 v35 none (some (.int .i64 t37))) fun v38 h_54 =>
    obind (nilC t0) fun t39 =>
    obind (fldP 1 t39) fun t40 =>
    obind (stRow h_54 1 (AV.cells v38) t40) fun h_58 =>
    k47 h_58)
   (
    lett ((t13 : Int) == 2) fun (t42 : Bool) =>
    lett (fun  (h_63 : AHeap) =>
     k47 h_63) fun k62 =>
    ifB t42
    (
     obind (nilC t0) fun t45 =>
     obind (stRow h_18 2 ([.bool false, .nsl] : List AV) t45) fun h_65 =>
     k62 h_65)
    (
     k62 h_18))))
 (
  k4 h_7)
noncomputable def disk_content_do_L0 (t0 : AV) (t1 : AV) (t7 : Int) (k4 : AHeap → R) : Nat → Int → AHeap → R := iterR (fun _ _ => none) (disk_content_do_L0b t0 t1 t7 k4)
theorem disk_content_do_L0_s (t0 : AV) (t1 : AV) (t7 : Int) (k4 : AHeap → R) (m : Nat) : disk_content_do_L0 t0 t1 t7 k4 (m + 1) = disk_content_do_L0b t0 t1 t7 k4 (disk_content_do_L0 t0 t1 t7 k4 m) := rfl
noncomputable def disk_content_do (_ : CallF) (n : Nat) (t0 : AV) (t1 : AV) (h : AHeap) : R :=
 obind (lenL t1) fun t7 =>
 lett (fun  (h_5 : AHeap) =>
  some (.ret (.tup []), h_5)) fun k4 =>
 disk_content_do_L0 t0 t1 t7 k4 n 0 h
set_option maxHeartbeats 4000000 in
set_option maxRecDepth 20000 in
theorem disk_content_do_ok {call : CallF} (hc : SaysAll Try.prog call) {n : Nat} {t0 : AV} {t1 : AV} {h : AHeap} {rR : ARes} {hR : AHeap} (hF : disk_content_do call n t0 t1 h = some (rR, hR)) : Says Try.prog 61 [t0, t1] h rR hR := by
 unfold disk_content_do at hF
 refine sO Try.func61 fun w0 m0 => ?_
 refine wW [(0, t0), (1, t1)] ?_
 refine oG fun n1 => W.r ?_
 refine oA 6 t1 ?_
 refine oM 7 77 110 hF fun t7 hF => ?_
 refine oA 8 (.int .i64 0) ?_
 refine oV [(0, t0), (6, t1), (7, .int .i64 t7), (8, .int .i64 0)] (n1 ?_)
 obtain ⟨k4, e4, hF⟩ := lett_some hF
 have J4 : ∀  (h_5 : AHeap), k4 h_5 = some (rR, hR) → Go w0 m0 (Func.ntmps Try.f61) (Fin Try.prog Try.f61 w0 m0 rR hR .normal) [] [] h_5 := by
  intro  h_5 hF
  rw [e4] at hF
  exact lY hF [] [] res_nil
 refine W.blockK (by kernel_rfl) (fun K3 n3 s3 o3 q3 p3 => ?_)
 refine W.loopK (by kernel_rfl) (fun I6 K6 b6 n6 e6 q6 p6 => ?_)
 have L6 : ∀ (m : Nat) (t8 : Int) (h_7 : AHeap), disk_content_do_L0 t0 t1 t7 k4 m t8 h_7 = some (rR, hR) → Go w0 m0 (Func.ntmps Try.f61) I6 [(0, t0), (6, t1), (7, .int .i64 t7), (8, .int .i64 t8)] [] h_7 := by
  intro m
  induction m with
  | zero => intro t8 h_7 hF; cases hF
  | succ m ih6 =>
   intro t8 h_7 hF
   rw [disk_content_do_L0_s] at hF; unfold disk_content_do_L0b at hF
   refine b6 ?_
   refine oG fun n8 => W.r ?_
   refine oB 9 hF fun t9 hF => ?_
   refine oV [(0, t0), (6, t1), (7, .int .i64 t7), (8, .int .i64 t8), (9, .bool t9)] (n8 ?_)
   refine W.s (fun K10 n10 e10 q10 p10 => ?_)
   cases t9 with
   | true =>
    refine oT hF fun hF => ?_
    refine oZ (n10 ?_)
    refine oG fun n11 => ?_
    refine W.blockK (by kernel_rfl) (fun K12 n12 s12 o12 q12 p12 => ?_)
    refine oG fun n13 => W.r ?_
    refine oP 10 77 110 .i64 hF fun t10 hF => ?_
    refine oR 11 110 hF fun t11 hF => ?_
    refine oN 5 hF fun h_16 hF => ?_
    refine oW 110 (.agg t11) hF fun h_18 hF => ?_
    refine oV [(0, t0), (5, (newP h_7)), (6, t1), (7, .int .i64 t7), (8, .int .i64 t8)] (n13 ?_)
    refine oG fun n20 => W.r ?_
    refine oA 12 (AV.ptr (AHeap.next h_7) 0) ?_
    refine oLi 13 108 hF fun t13 hF => ?_
    refine oV [(0, t0), (5, (newP h_7)), (6, t1), (7, .int .i64 t7), (8, .int .i64 t8), (13, .int .i64 t13)] (n20 ?_)
    refine W.blockK (by kernel_rfl) (fun K23 n23 s23 o23 q23 p23 => ?_)
    refine oG fun n24 => W.r ?_
    refine oB 15 hF fun t15 hF => ?_
    refine oA 14 (.bool t15) ?_
    refine oV [(0, t0), (5, (newP h_7)), (6, t1), (7, .int .i64 t7), (8, .int .i64 t8), (13, .int .i64 t13), (14, .bool t15)] (n24 ?_)
    obtain ⟨k26, e26, hF⟩ := lett_some hF
    have J26 : ∀  (h_27 : AHeap), k26 h_27 = some (rR, hR) → Go w0 m0 (Func.ntmps Try.f61) (K23 .normal) [(0, t0), (6, t1), (7, .int .i64 t7), (8, .int .i64 t8)] [] h_27 := by
     intro  h_27 hF
     rw [e26] at hF
     refine n23 (n12 (n11 (W.r ?_)))
     refine oI 46 .i64 hF fun t46 hF => ?_
     refine oA 8 (.int .i64 t46) ?_
     refine oV [(0, t0), (6, t1), (7, .int .i64 t7), (8, .int .i64 t46)] (n6 ?_)
     exact gW _ (ih6 _ _ hF)
    cases t15 with
    | true =>
     refine oT hF fun hF => ?_
     refine oG fun n29 => W.r ?_
     refine oA 16 t0 ?_
     refine oC0 17 hF fun t17 hF => ?_
     refine oF 18 76 0 hF fun t18 hF => ?_
     refine oW 4 (.bool true) hF fun h_32 hF => ?_
     refine oV [(0, t0), (5, (newP h_7)), (6, t1), (7, .int .i64 t7), (8, .int .i64 t8)] (n29 ?_)
     refine W.draw (by kernel_rfl) (hc.ok w0) (plan := [0, 1, 2, 3, 4, 5, 6, 7, 8, 9, 10]) (by kernel_rfl) (by kernel_rfl) (by kernel_rfl) ?_
     refine WD.a 0 (some 19) t0 h_32 ?_
     refine WD.a 0 (some 20) t0 h_32 ?_
     obtain ⟨t21, e34, hF⟩ := obind_some hF
     refine WD.b 0 (some 21) t21 h_32 (nil_chk (h := h_32) e34) ?_
     obtain ⟨t22, e35, hF⟩ := obind_some hF
     refine WD.b 0 (some 22) t22 h_32 (field_ptr (P := Try.prog) (h := h_32) (s := 76) (f := 1) (by kernel_rfl) e35) ?_
     obtain ⟨v23, e36, hF⟩ := obind_some hF
     refine WD.b 1 (some 23) v23 h_32 (load_cell (P := Try.prog) (h := h_32) (t := 74) (by kernel_rfl) e36) ?_
     refine WD.a 0 (some 24) (AV.ptr (AHeap.next h_7) 1) h_32 ?_
     replace hF := obind_some hF; obtain ⟨v25, e37, hF⟩ := hF
     replace hF := obind_some hF; obtain ⟨t25, c38, hF⟩ := hF
     have c38 := avStr_some c38
     subst c38
     refine WD.b 1 (some 25) (strA t25) h_32 (load_cell (P := Try.prog) (h := h_32) (t := 9) (by kernel_rfl) e37) ?_
     obtain ⟨v26, h_39, e40, hF⟩ := outK_some hF
     refine WD.val (d := (some 26)) (v := v26) (h' := h_39) (by kernel_rfl) (by kernel_rfl) (Eq.trans (by kernel_rfl) e40) (k := 2) (by kernel_rfl) (fun _ => (by kernel_rfl)) (by decide) ?_
     obtain ⟨t27, e41, hF⟩ := obind_some hF
     refine WD.b 0 (some 27) t27 h_39 (nil_chk (h := h_39) e41) ?_
     obtain ⟨t28, e42, hF⟩ := obind_some hF
     refine WD.b 0 (some 28) t28 h_39 (field_ptr (P := Try.prog) (h := h_39) (s := 76) (f := 1) (by kernel_rfl) e42) ?_
     obtain ⟨h_43, e44, hF⟩ := obind_some hF
     refine WD.eff (h' := h_43) (by kernel_rfl) (by kernel_rfl) (Eq.trans (by kernel_rfl) (store_row (P := Try.prog) (h := h_39) (t := 74) (v := v26) (by kernel_rfl) (by kernel_rfl) e44)) (k := 2) (by kernel_rfl) (fun _ => (by kernel_rfl)) (by decide) ?_
     refine WD.nil ?_
     refine gW [(0, t0), (6, t1), (7, .int .i64 t7), (8, .int .i64 t8)] ?_
     exact gW _ (J26 _ hF)
    | false =>
     refine oU hF fun hF => ?_
     refine oG fun n45 => W.r ?_
     refine oB 30 hF fun t30 hF => ?_
     refine oA 29 (.bool t30) ?_
     refine oV [(0, t0), (5, (newP h_7)), (6, t1), (7, .int .i64 t7), (8, .int .i64 t8), (13, .int .i64 t13), (29, .bool t30)] (n45 ?_)
     obtain ⟨k47, e47, hF⟩ := lett_some hF
     have J47 : ∀  (h_48 : AHeap), k47 h_48 = some (rR, hR) → Go w0 m0 (Func.ntmps Try.f61) (K23 .normal) [(0, t0), (6, t1), (7, .int .i64 t7), (8, .int .i64 t8)] [] h_48 := by
      intro  h_48 hF
      rw [e47] at hF
      exact gW _ (J26 _ hF)
     cases t30 with
     | true =>
      refine oT hF fun hF => ?_
      refine W.draw (by kernel_rfl) (hc.ok w0) (plan := [0, 1, 2, 3, 4, 5, 6, 7, 8, 9, 10]) (by kernel_rfl) (by kernel_rfl) (by kernel_rfl) ?_
      refine WD.a 0 (some 31) t0 h_18 ?_
      refine WD.a 0 (some 32) t0 h_18 ?_
      obtain ⟨t33, e49, hF⟩ := obind_some hF
      refine WD.b 0 (some 33) t33 h_18 (nil_chk (h := h_18) e49) ?_
      obtain ⟨t34, e50, hF⟩ := obind_some hF
      refine WD.b 0 (some 34) t34 h_18 (field_ptr (P := Try.prog) (h := h_18) (s := 76) (f := 1) (by kernel_rfl) e50) ?_
      obtain ⟨v35, e51, hF⟩ := obind_some hF
      refine WD.b 1 (some 35) v35 h_18 (load_cell (P := Try.prog) (h := h_18) (t := 74) (by kernel_rfl) e51) ?_
      refine WD.a 0 (some 36) (AV.ptr (AHeap.next h_7) 2) h_18 ?_
      replace hF := obind_some hF; obtain ⟨v37, e52, hF⟩ := hF
      replace hF := obind_some hF; obtain ⟨t37, c53, hF⟩ := hF
      have c53 := avInt_some c53
      subst c53
      refine WD.b 1 (some 37) (.int .i64 t37) h_18 (load_cell (P := Try.prog) (h := h_18) (t := 3) (by kernel_rfl) e52) ?_
      obtain ⟨v38, h_54, e55, hF⟩ := outK_some hF
      refine WD.b 0 (some 38) v38 h_54 e55 ?_
      obtain ⟨t39, e56, hF⟩ := obind_some hF
      refine WD.b 0 (some 39) t39 h_54 (nil_chk (h := h_54) e56) ?_
      obtain ⟨t40, e57, hF⟩ := obind_some hF
      refine WD.b 0 (some 40) t40 h_54 (field_ptr (P := Try.prog) (h := h_54) (s := 76) (f := 1) (by kernel_rfl) e57) ?_
      obtain ⟨h_58, e59, hF⟩ := obind_some hF
      refine WD.eff (h' := h_58) (by kernel_rfl) (by kernel_rfl) (Eq.trans (by kernel_rfl) (store_row (P := Try.prog) (h := h_54) (t := 74) (v := v38) (by kernel_rfl) (by kernel_rfl) e59)) (k := 2) (by kernel_rfl) (fun _ => (by kernel_rfl)) (by decide) ?_
      refine WD.nil ?_
      refine gW [(0, t0), (6, t1), (7, .int .i64 t7), (8, .int .i64 t8)] ?_
      exact gW _ (J47 _ hF)
     | false =>
      refine oU hF fun hF => ?_
      refine oG fun n60 => W.r ?_
      refine oB 42 hF fun t42 hF => ?_
      refine oA 41 (.bool t42) ?_
      refine oV [(0, t0), (6, t1), (7, .int .i64 t7), (8, .int .i64 t8), (41, .bool t42)] (n60 ?_)
      obtain ⟨k62, e62, hF⟩ := lett_some hF
      have J62 : ∀  (h_63 : AHeap), k62 h_63 = some (rR, hR) → Go w0 m0 (Func.ntmps Try.f61) (K23 .normal) [(0, t0), (6, t1), (7, .int .i64 t7), (8, .int .i64 t8)] [] h_63 := by
       intro  h_63 hF
       rw [e62] at hF
       exact gW _ (J47 _ hF)
      cases t42 with
      | true =>
       refine oT hF fun hF => ?_
       refine W.r ?_
       refine oA 43 t0 ?_
       refine oA 44 (.agg ([.bool false, .nsl] : List AV)) ?_
       refine oC0 45 hF fun t45 hF => ?_
       refine oW 76 (.agg ([.bool false, .nsl] : List AV)) hF fun h_65 hF => ?_
       refine oV [(0, t0), (6, t1), (7, .int .i64 t7), (8, .int .i64 t8)] ?_
       exact gW _ (J62 _ hF)
      | false =>
       refine oU hF fun hF => ?_
       refine oZ ?_
       exact gW _ (J62 _ hF)
   | false =>
    refine oU hF fun hF => ?_
    refine W.exit (by kernel_rfl) ?_
    refine e10 (e6 ?_)
    refine s3 (by kernel_rfl) ?_
    exact gW _ (J4 _ hF)
 exact gW _ (L6 _ _ _ hF)
noncomputable def disk_Disk_step (_ : CallF) (_ : Nat) (t0 : AV) (h : AHeap) : R :=
 obind (nilC t0) fun t3 =>
 obind (fldP 161 t3) fun t4 =>
 obind (ldCell h t4) fun v5 =>
 obind (avInt .i64 v5) fun t5 =>
 lett (IntKind.i64.wrap (t5 + 1)) fun (t6 : Int) =>
 obind (nilC t0) fun t7 =>
 obind (fldP 161 t7) fun t8 =>
 obind (stRow h 1 [.int .i64 t6] t8) fun h_9 =>
 obind (nilC t0) fun t10 =>
 obind (fldP 160 t10) fun t11 =>
 obind (ldCell h_9 t11) fun v12 =>
 obind (avInt .i64 v12) fun t12 =>
 lett (decide (t12 > 0)) fun (t13 : Bool) =>
 lett (fun  (h_18 : AHeap) =>
  some (.ret (.tup []), h_18)) fun k17 =>
 ifB t13
 (
  obind (nilC t0) fun t15 =>
  obind (fldP 160 t15) fun t16 =>
  obind (ldCell h_9 t16) fun v17 =>
  obind (avInt .i64 v17) fun t17 =>
  lett (IntKind.i64.wrap (t17 - 1)) fun (t18 : Int) =>
  obind (nilC t0) fun t19 =>
  obind (fldP 160 t19) fun t20 =>
  obind (stRow h_9 1 [.int .i64 t18] t20) fun h_26 =>
  k17 h_26)
 (
  k17 h_9)
set_option maxHeartbeats 4000000 in
set_option maxRecDepth 20000 in
theorem disk_Disk_step_ok {call : CallF} (_ : SaysAll Try.prog call) {n : Nat} {t0 : AV} {h : AHeap} {rR : ARes} {hR : AHeap} (hF : disk_Disk_step call n t0 h = some (rR, hR)) : Says Try.prog 62 [t0] h rR hR := by
 unfold disk_Disk_step at hF
 refine sO Try.func62 fun w0 m0 => ?_
 refine wW [(0, t0)] ?_
 refine oG fun n1 => W.r ?_
 refine oA 2 t0 ?_
 refine oC0 3 hF fun t3 hF => ?_
 refine oF 4 82 2 hF fun t4 hF => ?_
 refine oLi 5 3 hF fun t5 hF => ?_
 refine oI 6 .i64 hF fun t6 hF => ?_
 refine oC0 7 hF fun t7 hF => ?_
 refine oF 8 82 2 hF fun t8 hF => ?_
 refine oW 3 (.int .i64 t6) hF fun h_9 hF => ?_
 refine oV [(0, t0)] (n1 ?_)
 refine oG fun n11 => W.r ?_
 refine oA 9 t0 ?_
 refine oC0 10 hF fun t10 hF => ?_
 refine oF 11 82 1 hF fun t11 hF => ?_
 refine oLi 12 3 hF fun t12 hF => ?_
 refine oB 13 hF fun t13 hF => ?_
 refine oV [(0, t0), (13, .bool t13)] (n11 ?_)
 obtain ⟨k17, e17, hF⟩ := lett_some hF
 have J17 : ∀  (h_18 : AHeap), k17 h_18 = some (rR, hR) → Go w0 m0 (Func.ntmps Try.f62) (Fin Try.prog Try.f62 w0 m0 rR hR .normal) [] [] h_18 := by
  intro  h_18 hF
  rw [e17] at hF
  exact lY hF [] [] res_nil
 cases t13 with
 | true =>
  refine oT hF fun hF => ?_
  refine W.r ?_
  refine oA 14 t0 ?_
  refine oC0 15 hF fun t15 hF => ?_
  refine oF 16 82 1 hF fun t16 hF => ?_
  refine oLi 17 3 hF fun t17 hF => ?_
  refine oI 18 .i64 hF fun t18 hF => ?_
  refine oC0 19 hF fun t19 hF => ?_
  refine oF 20 82 1 hF fun t20 hF => ?_
  refine oW 3 (.int .i64 t18) hF fun h_26 hF => ?_
  refine oV [] ?_
  exact gW _ (J17 _ hF)
 | false =>
  refine oU hF fun hF => ?_
  refine oZ ?_
  exact gW _ (J17 _ hF)
noncomputable def disk_isFile (_ : CallF) (_ : Nat) (t0 : Int) (h : AHeap) : R :=
 lett (decide (t0 ≥ 0)) fun (t4 : Bool) =>
 lett (fun (t8 : Bool) (h_4 : AHeap) =>
  some (.ret (.bool t8), h_4)) fun j8 =>
 ifB t4
 (
  lett (decide (t0 < 32)) fun (t7 : Bool) =>
  j8 t7 h)
 (
  j8 false h)
set_option maxHeartbeats 4000000 in
set_option maxRecDepth 20000 in
theorem disk_isFile_ok {call : CallF} (_ : SaysAll Try.prog call) {n : Nat} {t0 : Int} {h : AHeap} {rR : ARes} {hR : AHeap} (hF : disk_isFile call n t0 h = some (rR, hR)) : Says Try.prog 51 [.int .i64 t0] h rR hR := by
 unfold disk_isFile at hF
 refine sO Try.func51 fun w0 m0 => ?_
 refine wW [(0, .int .i64 t0)] ?_
 refine oG fun n1 => W.r ?_
 refine oA 2 (.bool false) ?_
 refine oV [(0, .int .i64 t0)] (n1 ?_)
 refine W.s (fun K2 n2 e2 q2 p2 => ?_)
 refine W.r ?_
 refine oA 3 (.int .i64 t0) ?_
 refine oB 4 hF fun t4 hF => ?_
 refine oA 5 (.bool t4) ?_
 obtain ⟨j8, e5, hF⟩ := lett_some hF
 have J6 : ∀ (t8 : Bool) (h_4 : AHeap), j8 t8 h_4 = some (rR, hR) → WL Try.prog w0 m0 (Func.ntmps Try.f51) (Code.ops (Code.p1 (Code.p2 (codeOf Try.f51)))) 6 K2 [(8, .bool t8)] [] h_4 := by
  intro t8 h_4 hF
  rw [e5] at hF
  refine oA 2 (.bool t8) ?_
  refine oV [(2, .bool t8)] (n2 (oY ?_))
  exact lZ hF [.tmp 2] [.bool t8] (rT res_nil)
 cases t4 with
 | true =>
  replace hF := ifB_t hF
  refine oA 6 (.int .i64 t0) ?_
  refine oB 7 hF fun t7 hF => ?_
  refine oA 8 (.bool t7) ?_
  exact lW _ (J6 _ _ hF)
 | false =>
  replace hF := ifB_f hF
  refine WL.o (some 6) ?_
  refine WL.o (some 7) ?_
  refine oA 8 (.bool false) ?_
  exact lW _ (J6 _ _ hF)
noncomputable def disk_Disk_Read (call : CallF) (_ : Nat) (t0 : AV) (t1 : Int) (h : AHeap) : R :=
 callN (call 45 [t0, .int .i64 t1] h) fun r10 h_4 =>
 obind (avInt .i64 r10) fun t10 =>
 lett ((t10 : Int) != 0) fun (t12 : Bool) =>
 ifB t12
 (
  some (.ret (.tup [strA ([] : Bytes), .int .i64 t10]), h_4))
 (
  obind (nilC t0) fun t16 =>
  obind (fldP 0 t16) fun t17 =>
  obind (idxA 32 5 t17 t1) fun t18 =>
  obind (fldP 2 t18) fun t19 =>
  obind (nilC t19) fun t21 =>
  obind (fldP 0 t21) fun t22 =>
  obind (ldCell h_4 t22) fun v23 =>
  obind (avBool v23) fun t23 =>
  lett (!t23) fun (t24 : Bool) =>
  ifB t24
  (
   some (.ret (.tup [strA ([] : Bytes), .int .i64 4]), h_4))
  (
   obind (nilC t19) fun t26 =>
   obind (fldP 1 t26) fun t27 =>
   obind (ldCell h_4 t27) fun v28 =>
   outK (opConv Try.prog h_4 74 9 (some v28)) fun v29 h_27 =>
   obind (avStr v29) fun t29 =>
   some (.ret (.tup [strA t29, .int .i64 0]), h_27)))
set_option maxHeartbeats 4000000 in
set_option maxRecDepth 20000 in
theorem disk_Disk_Read_ok {call : CallF} (hc : SaysAll Try.prog call) {n : Nat} {t0 : AV} {t1 : Int} {h : AHeap} {rR : ARes} {hR : AHeap} (hF : disk_Disk_Read call n t0 t1 h = some (rR, hR)) : Says Try.prog 52 [t0, .int .i64 t1] h rR hR := by
 unfold disk_Disk_Read at hF
 refine sO Try.func52 fun w0 m0 => ?_
 refine wW [(0, t0), (1, .int .i64 t1)] ?_
 refine oG fun n1 => W.r ?_
 refine oA 4 (strA ([] : Bytes)) ?_
 refine oA 5 (.int .i64 0) ?_
 refine oV [(0, t0), (1, .int .i64 t1)] (n1 ?_)
 refine oH fun n2 q2 => ?_
 refine oG fun n3 => W.r ?_
 refine oA 8 t0 ?_
 refine oA 9 (.int .i64 t1) ?_
 refine oCi hc 10 hF fun t10 h_4 hF => ?_
 refine oA 6 (.int .i64 t10) ?_
 refine oV [(0, t0), (1, .int .i64 t1), (6, .int .i64 t10)] (n3 ?_)
 refine oG fun n7 => W.r ?_
 refine oA 11 (.int .i64 t10) ?_
 refine oB 12 hF fun t12 hF => ?_
 refine oV [(0, t0), (1, .int .i64 t1), (6, .int .i64 t10), (12, .bool t12)] (n7 ?_)
 cases t12 with
 | true =>
  refine oT hF fun hF => ?_
  refine oG fun n9 => W.r ?_
  refine oA 13 (.int .i64 t10) ?_
  refine oA 4 (strA ([] : Bytes)) ?_
  refine oA 5 (.int .i64 t10) ?_
  refine oV [(4, strA ([] : Bytes)), (5, .int .i64 t10)] (n9 (oY (q2 ?_)))
  exact lZ hF [.tmp 4, .tmp 5] [strA ([] : Bytes), .int .i64 t10] (rT (rT res_nil))
 | false =>
  refine oU hF fun hF => ?_
  refine oZ (n2 ?_)
  refine oG fun n10 => W.r ?_
  refine oA 14 t0 ?_
  refine oA 15 (.int .i64 t1) ?_
  refine oC0 16 hF fun t16 hF => ?_
  refine oF 17 82 0 hF fun t17 hF => ?_
  refine oQ 18 80 79 .i64 hF fun t18 hF => ?_
  refine oF 19 79 1 hF fun t19 hF => ?_
  refine oA 7 t19 ?_
  refine oV [(7, t19)] (n10 ?_)
  refine oH fun n15 q15 => ?_
  refine oG fun n16 => W.r ?_
  refine oA 20 t19 ?_
  refine oC0 21 hF fun t21 hF => ?_
  refine oF 22 76 0 hF fun t22 hF => ?_
  refine oLb 23 4 hF fun t23 hF => ?_
  refine oB 24 hF fun t24 hF => ?_
  refine oV [(7, t19), (24, .bool t24)] (n16 ?_)
  cases t24 with
  | true =>
   refine oT hF fun hF => ?_
   refine oG fun n22 => W.r ?_
   refine oA 4 (strA ([] : Bytes)) ?_
   refine oA 5 (.int .i64 4) ?_
   refine oV [(4, strA ([] : Bytes)), (5, .int .i64 4)] (n22 (oY (q15 ?_)))
   exact lZ hF [.tmp 4, .tmp 5] [strA ([] : Bytes), .int .i64 4] (rT (rT res_nil))
  | false =>
   refine oU hF fun hF => ?_
   refine oZ (n15 ?_)
   refine oG fun n23 => W.r ?_
   refine oA 25 t19 ?_
   refine oC0 26 hF fun t26 hF => ?_
   refine oF 27 76 1 hF fun t27 hF => ?_
   refine oL 28 74 hF fun v28 hF => ?_
   replace hF := outK_some hF; obtain ⟨v29, h_27, e28, hF⟩ := hF
   replace hF := obind_some hF; obtain ⟨t29, c29, hF⟩ := hF
   have c29 := avStr_some c29
   subst c29
   refine WL.b (some 29) (strA t29) h_27 e28 ?_
   refine oA 4 (strA t29) ?_
   refine oA 5 (.int .i64 0) ?_
   refine oV [(4, strA t29), (5, .int .i64 0)] (n23 (oY ?_))
   exact lZ hF [.tmp 4, .tmp 5] [strA t29, .int .i64 0] (rT (rT res_nil))
noncomputable def disk_Disk_Sure (call : CallF) (_ : Nat) (t0 : AV) (t1 : Int) (h : AHeap) : R :=
 outK (opBin Try.prog h .eql 23 true (some t0) (some AV.nilp)) fun v8 h_4 =>
 obind (avBool v8) fun t8 =>
 lett (fun (t13 : Bool) (h_7 : AHeap) =>
  ifB t13
  (
   some (.ret (.tup [strA ([] : Bytes), .bool false]), h_7))
  (
   obind (nilC t0) fun t16 =>
   obind (fldP 0 t16) fun t17 =>
   obind (idxA 32 5 t17 t1) fun t18 =>
   obind (fldP 0 t18) fun t19 =>
   obind (nilC t19) fun t21 =>
   obind (fldP 1 t21) fun t22 =>
   obind (ldCell h_7 t22) fun v23 =>
   obind (nilC t19) fun t26 =>
   obind (fldP 0 t26) fun t27 =>
   obind (ldCell h_7 t27) fun v28 =>
   obind (avBool v28) fun t28 =>
   outK (opConv Try.prog h_7 74 9 (some v23)) fun v24 h_24 =>
   obind (avStr v24) fun t24 =>
   chk (reLoad Try.prog h_24 4 t27 (.bool t28) && (true && true)) <|
   some (.ret (.tup [strA t24, .bool t28]), h_24))) fun j13 =>
 ifB t8
 (
  j13 true h_4)
 (
  callN (call 51 [.int .i64 t1] h_4) fun r11 h_28 =>
  obind (avBool r11) fun t11 =>
  lett (!t11) fun (t12 : Bool) =>
  j13 t12 h_28)
set_option maxHeartbeats 4000000 in
set_option maxRecDepth 20000 in
theorem disk_Disk_Sure_ok {call : CallF} (hc : SaysAll Try.prog call) {n : Nat} {t0 : AV} {t1 : Int} {h : AHeap} {rR : ARes} {hR : AHeap} (hF : disk_Disk_Sure call n t0 t1 h = some (rR, hR)) : Says Try.prog 26 [t0, .int .i64 t1] h rR hR := by
 unfold disk_Disk_Sure at hF
 refine sO Try.func26 fun w0 m0 => ?_
 refine wW [(0, t0), (1, .int .i64 t1)] ?_
 refine oG fun n1 => W.r ?_
 refine oA 4 (strA ([] : Bytes)) ?_
 refine oA 5 (.bool false) ?_
 refine oV [(0, t0), (1, .int .i64 t1)] (n1 ?_)
 refine oH fun n2 q2 => ?_
 refine W.s (fun K3 n3 e3 q3 p3 => ?_)
 refine W.r ?_
 refine oA 7 t0 ?_
 replace hF := outK_some hF; obtain ⟨v8, h_4, e5, hF⟩ := hF
 replace hF := obind_some hF; obtain ⟨t8, c6, hF⟩ := hF
 have c6 := avBool_some c6
 subst c6
 refine WL.b (some 8) (.bool t8) h_4 e5 ?_
 refine oA 9 (.bool t8) ?_
 obtain ⟨j13, e8, hF⟩ := lett_some hF
 have J9 : ∀ (t13 : Bool) (h_7 : AHeap), j13 t13 h_7 = some (rR, hR) → WL Try.prog w0 m0 (Func.ntmps Try.f26) (Code.ops (Code.p1 (Code.p1 (Code.p2 (codeOf Try.f26))))) 7 K3 [(0, t0), (1, .int .i64 t1), (13, .bool t13)] [] h_7 := by
  intro t13 h_7 hF
  rw [e8] at hF
  refine oV [(0, t0), (1, .int .i64 t1), (13, .bool t13)] (n3 ?_)
  cases t13 with
  | true =>
   refine oT hF fun hF => ?_
   refine oG fun n10 => W.r ?_
   refine oA 4 (strA ([] : Bytes)) ?_
   refine oA 5 (.bool false) ?_
   refine oV [(4, strA ([] : Bytes)), (5, .bool false)] (n10 (oY (q2 ?_)))
   exact lZ hF [.tmp 4, .tmp 5] [strA ([] : Bytes), .bool false] (rT (rT res_nil))
  | false =>
   refine oU hF fun hF => ?_
   refine oZ (n2 ?_)
   refine oG fun n11 => W.r ?_
   refine oA 14 t0 ?_
   refine oA 15 (.int .i64 t1) ?_
   refine oC0 16 hF fun t16 hF => ?_
   refine oF 17 82 0 hF fun t17 hF => ?_
   refine oQ 18 80 79 .i64 hF fun t18 hF => ?_
   refine oF 19 79 0 hF fun t19 hF => ?_
   refine oA 6 t19 ?_
   refine oV [(6, t19)] (n11 ?_)
   refine oG fun n16 => ?_
   refine W.draw (by kernel_rfl) (hc.ok w0) (plan := [0, 1, 2, 3, 5, 6, 7, 8, 4, 9, 10]) (by kernel_rfl) (by kernel_rfl) (by kernel_rfl) ?_
   refine WD.a 0 (some 20) t19 h_7 ?_
   obtain ⟨t21, e17, hF⟩ := obind_some hF
   refine WD.b 0 (some 21) t21 h_7 (nil_chk (h := h_7) e17) ?_
   obtain ⟨t22, e18, hF⟩ := obind_some hF
   refine WD.b 0 (some 22) t22 h_7 (field_ptr (P := Try.prog) (h := h_7) (s := 76) (f := 1) (by kernel_rfl) e18) ?_
   obtain ⟨v23, e19, hF⟩ := obind_some hF
   refine WD.b 1 (some 23) v23 h_7 (load_cell (P := Try.prog) (h := h_7) (t := 74) (by kernel_rfl) e19) ?_
   refine WD.a 0 (some 25) t19 h_7 ?_
   obtain ⟨t26, e20, hF⟩ := obind_some hF
   refine WD.b 0 (some 26) t26 h_7 (nil_chk (h := h_7) e20) ?_
   obtain ⟨t27, e21, hF⟩ := obind_some hF
   refine WD.b 0 (some 27) t27 h_7 (field_ptr (P := Try.prog) (h := h_7) (s := 76) (f := 0) (by kernel_rfl) e21) ?_
   replace hF := obind_some hF; obtain ⟨v28, e22, hF⟩ := hF
   replace hF := obind_some hF; obtain ⟨t28, c23, hF⟩ := hF
   have c23 := avBool_some c23
   subst c23
   refine WD.b 1 (some 28) (.bool t28) h_7 (load_cell (P := Try.prog) (h := h_7) (t := 4) (by kernel_rfl) e22) ?_
   replace hF := outK_some hF; obtain ⟨v24, h_24, e25, hF⟩ := hF
   replace hF := obind_some hF; obtain ⟨t24, c26, hF⟩ := hF
   have c26 := avStr_some c26
   subst c26
   obtain ⟨k27, hF⟩ := chk_some hF
   refine WD.val (d := (some 24)) (v := strA t24) (h' := h_24) (by kernel_rfl) (by kernel_rfl) (Eq.trans (by kernel_rfl) e25) (k := 2) (by kernel_rfl) (fun _ => (Eq.trans (by kernel_rfl) k27)) (by decide) ?_
   refine WD.a 0 (some 4) (strA t24) h_24 ?_
   refine WD.a 0 (some 5) (.bool t28) h_24 ?_
   refine WD.nil ?_
   refine gW [(4, strA t24), (5, .bool t28)] (n16 (oY ?_))
   exact lZ hF [.tmp 4, .tmp 5] [strA t24, .bool t28] (rT (rT res_nil))
 cases t8 with
 | true =>
  replace hF := ifB_t hF
  refine WL.o (some 10) ?_
  refine WL.o (some 11) ?_
  refine WL.o (some 12) ?_
  refine oA 13 (.bool true) ?_
  exact lW _ (J9 _ _ hF)
 | false =>
  replace hF := ifB_f hF
  refine oA 10 (.int .i64 t1) ?_
  refine oCb hc 11 hF fun t11 h_28 hF => ?_
  refine oB 12 hF fun t12 hF => ?_
  refine oA 13 (.bool t12) ?_
  exact lW _ (J9 _ _ hF)
noncomputable def disk_Disk_Loose (call : CallF) (_ : Nat) (t0 : AV) (t1 : Int) (h : AHeap) : R :=
 outK (opBin Try.prog h .eql 23 true (some t0) (some AV.nilp)) fun v6 h_4 =>
 obind (avBool v6) fun t6 =>
 lett (fun (t11 : Bool) (h_7 : AHeap) =>
  ifB t11
  (
   some (.ret (.int .i64 0), h_7))
  (
   obind (nilC t0) fun t14 =>
   obind (fldP 0 t14) fun t15 =>
   obind (idxA 32 5 t15 t1) fun t16 =>
   obind (fldP 4 t16) fun t17 =>
   obind (ldCell h_7 t17) fun v18 =>
   obind (lenL v18) fun t19 =>
   some (.ret (.int .i64 t19), h_7))) fun j11 =>
 ifB t6
 (
  j11 true h_4)
 (
  callN (call 51 [.int .i64 t1] h_4) fun r9 h_18 =>
  obind (avBool r9) fun t9 =>
  lett (!t9) fun (t10 : Bool) =>
  j11 t10 h_18)
set_option maxHeartbeats 4000000 in
set_option maxRecDepth 20000 in
theorem disk_Disk_Loose_ok {call : CallF} (hc : SaysAll Try.prog call) {n : Nat} {t0 : AV} {t1 : Int} {h : AHeap} {rR : ARes} {hR : AHeap} (hF : disk_Disk_Loose call n t0 t1 h = some (rR, hR)) : Says Try.prog 27 [t0, .int .i64 t1] h rR hR := by
 unfold disk_Disk_Loose at hF
 refine sO Try.func27 fun w0 m0 => ?_
 refine wW [(0, t0), (1, .int .i64 t1)] ?_
 refine oG fun n1 => W.r ?_
 refine oA 4 (.int .i64 0) ?_
 refine oV [(0, t0), (1, .int .i64 t1)] (n1 ?_)
 refine oH fun n2 q2 => ?_
 refine W.s (fun K3 n3 e3 q3 p3 => ?_)
 refine W.r ?_
 refine oA 5 t0 ?_
 replace hF := outK_some hF; obtain ⟨v6, h_4, e5, hF⟩ := hF
 replace hF := obind_some hF; obtain ⟨t6, c6, hF⟩ := hF
 have c6 := avBool_some c6
 subst c6
 refine WL.b (some 6) (.bool t6) h_4 e5 ?_
 refine oA 7 (.bool t6) ?_
 obtain ⟨j11, e8, hF⟩ := lett_some hF
 have J9 : ∀ (t11 : Bool) (h_7 : AHeap), j11 t11 h_7 = some (rR, hR) → WL Try.prog w0 m0 (Func.ntmps Try.f27) (Code.ops (Code.p1 (Code.p1 (Code.p2 (codeOf Try.f27))))) 7 K3 [(0, t0), (1, .int .i64 t1), (11, .bool t11)] [] h_7 := by
  intro t11 h_7 hF
  rw [e8] at hF
  refine oV [(0, t0), (1, .int .i64 t1), (11, .bool t11)] (n3 ?_)
  cases t11 with
  | true =>
   refine oT hF fun hF => ?_
   refine oG fun n10 => W.r ?_
   refine oA 4 (.int .i64 0) ?_
   refine oV [(4, .int .i64 0)] (n10 (oY (q2 ?_)))
   exact lZ hF [.tmp 4] [.int .i64 0] (rT res_nil)
  | false =>
   refine oU hF fun hF => ?_
   refine oZ (n2 ?_)
   refine oG fun n11 => W.r ?_
   refine oA 12 t0 ?_
   refine oA 13 (.int .i64 t1) ?_
   refine oC0 14 hF fun t14 hF => ?_
   refine oF 15 82 0 hF fun t15 hF => ?_
   refine oQ 16 80 79 .i64 hF fun t16 hF => ?_
   refine oF 17 79 2 hF fun t17 hF => ?_
   refine oL 18 77 hF fun v18 hF => ?_
   refine oM 19 77 110 hF fun t19 hF => ?_
   refine oA 4 (.int .i64 t19) ?_
   refine oV [(4, .int .i64 t19)] (n11 (oY ?_))
   exact lZ hF [.tmp 4] [.int .i64 t19] (rT res_nil)
 cases t6 with
 | true =>
  replace hF := ifB_t hF
  refine WL.o (some 8) ?_
  refine WL.o (some 9) ?_
  refine WL.o (some 10) ?_
  refine oA 11 (.bool true) ?_
  exact lW _ (J9 _ _ hF)
 | false =>
  replace hF := ifB_f hF
  refine oA 8 (.int .i64 t1) ?_
  refine oCb hc 9 hF fun t9 h_18 hF => ?_
  refine oB 10 hF fun t10 hF => ?_
  refine oA 11 (.bool t10) ?_
  exact lW _ (J9 _ _ hF)
noncomputable def disk_Disk_Crash_L0b (call : CallF) (t0 : AV) (t1 : AV) (t2 : Int) (k11 : AHeap → R) (self : Int → AHeap → R) (t11 : Int) (h_20 : AHeap) : R :=
 lett (decide (t11 < 32)) fun (t12 : Bool) =>
 ifB t12
 (
  obind (lenL t1) fun t16 =>
  lett (decide (t11 < t16)) fun (t17 : Bool) =>
  lett (fun (t8 : Int) (h_33 : AHeap) =>
   obind (nilC t0) fun t24 =>
   obind (fldP 0 t24) fun t25 =>
   obind (idxA 32 5 t25 t11) fun t26 =>
   callN (call 40 [t26, .int .i64 t8, .int .i64 t2] h_33) fun _ h_37 =>
   lett (IntKind.i64.wrap (t11 + 1)) fun (t30 : Int) =>
   self t30 h_37) fun k32 =>
  ifB t17
  (
   obind (idxP 1 t1 t11) fun t20 =>
   obind (ldCell h_20 t20) fun v21 =>
   obind (avInt .i64 v21) fun t21 =>
   k32 t21 h_20)
  (
   k32 0 h_20))
 (
  k11 h_20)
noncomputable def disk_Disk_Crash_L0 (call : CallF) (t0 : AV) (t1 : AV) (t2 : Int) (k11 : AHeap → R) : Nat → Int → AHeap → R := iterR (fun _ _ => none) (disk_Disk_Crash_L0b call t0 t1 t2 k11)
theorem disk_Disk_Crash_L0_s (call : CallF) (t0 : AV) (t1 : AV) (t2 : Int) (k11 : AHeap → R) (m : Nat) : disk_Disk_Crash_L0 call t0 t1 t2 k11 (m + 1) = disk_Disk_Crash_L0b call t0 t1 t2 k11 (disk_Disk_Crash_L0 call t0 t1 t2 k11 m) := rfl
noncomputable def disk_Disk_Crash (call : CallF) (n : Nat) (t0 : AV) (t1 : AV) (t2 : Int) (h : AHeap) : R :=
 outK (opBin Try.prog h .eql 23 true (some t0) (some AV.nilp)) fun v10 h_4 =>
 obind (avBool v10) fun t10 =>
 ifB t10
 (
  some (.ret (.int .i64 1), h_4))
 (
  lett (fun  (h_12 : AHeap) =>
   obind (nilC t0) fun t32 =>
   obind (fldP 160 t32) fun t33 =>
   obind (stRow h_12 1 [.int .i64 (-1)] t33) fun h_16 =>
   some (.ret (.int .i64 0), h_16)) fun k11 =>
  disk_Disk_Crash_L0 call t0 t1 t2 k11 n 0 h_4)
set_option maxHeartbeats 4000000 in
set_option maxRecDepth 20000 in
theorem disk_Disk_Crash_ok {call : CallF} (hc : SaysAll Try.prog call) {n : Nat} {t0 : AV} {t1 : AV} {t2 : Int} {h : AHeap} {rR : ARes} {hR : AHeap} (hF : disk_Disk_Crash call n t0 t1 t2 h = some (rR, hR)) : Says Try.prog 15 [t0, t1, .int .i64 t2] h rR hR := by
 unfold disk_Disk_Crash at hF
 refine sO Try.func15 fun w0 m0 => ?_
 refine wW [(0, t0), (1, t1), (2, .int .i64 t2)] ?_
 refine oG fun n1 => W.r ?_
 refine oA 6 (.int .i64 0) ?_
 refine oV [(0, t0), (1, t1), (2, .int .i64 t2)] (n1 ?_)
 refine oH fun n2 q2 => ?_
 refine oG fun n3 => W.r ?_
 refine oA 9 t0 ?_
 replace hF := outK_some hF; obtain ⟨v10, h_4, e5, hF⟩ := hF
 replace hF := obind_some hF; obtain ⟨t10, c6, hF⟩ := hF
 have c6 := avBool_some c6
 subst c6
 refine WL.b (some 10) (.bool t10) h_4 e5 ?_
 refine oV [(0, t0), (1, t1), (2, .int .i64 t2), (10, .bool t10)] (n3 ?_)
 cases t10 with
 | true =>
  refine oT hF fun hF => ?_
  refine oG fun n7 => W.r ?_
  refine oA 6 (.int .i64 1) ?_
  refine oV [(6, .int .i64 1)] (n7 (oY (q2 ?_)))
  exact lZ hF [.tmp 6] [.int .i64 1] (rT res_nil)
 | false =>
  refine oU hF fun hF => ?_
  refine oZ (n2 ?_)
  refine W.s (fun K8 n8 e8 q8 p8 => ?_)
  refine oG fun n9 => W.r ?_
  refine oA 11 (.int .i64 0) ?_
  refine oV [(0, t0), (1, t1), (2, .int .i64 t2), (11, .int .i64 0)] (n9 ?_)
  obtain ⟨k11, e11, hF⟩ := lett_some hF
  have J11 : ∀  (h_12 : AHeap), k11 h_12 = some (rR, hR) → Go w0 m0 (Func.ntmps Try.f15) (K8 .normal) [(0, t0)] [] h_12 := by
   intro  h_12 hF
   rw [e11] at hF
   refine n8 ?_
   refine oG fun n13 => W.r ?_
   refine oA 31 t0 ?_
   refine oC0 32 hF fun t32 hF => ?_
   refine oF 33 82 1 hF fun t33 hF => ?_
   refine oW 3 (.int .i64 (-1)) hF fun h_16 hF => ?_
   refine oV [] (n13 ?_)
   refine oG fun n18 => W.r ?_
   refine oA 6 (.int .i64 0) ?_
   refine oV [(6, .int .i64 0)] (n18 (oY ?_))
   exact lZ hF [.tmp 6] [.int .i64 0] (rT res_nil)
  refine W.blockK (by kernel_rfl) (fun K10 n10 s10 o10 q10 p10 => ?_)
  refine W.loopK (by kernel_rfl) (fun I19 K19 b19 n19 e19 q19 p19 => ?_)
  have L19 : ∀ (m : Nat) (t11 : Int) (h_20 : AHeap), disk_Disk_Crash_L0 call t0 t1 t2 k11 m t11 h_20 = some (rR, hR) → Go w0 m0 (Func.ntmps Try.f15) I19 [(0, t0), (1, t1), (2, .int .i64 t2), (11, .int .i64 t11)] [] h_20 := by
   intro m
   induction m with
   | zero => intro t11 h_20 hF; cases hF
   | succ m ih19 =>
    intro t11 h_20 hF
    rw [disk_Disk_Crash_L0_s] at hF; unfold disk_Disk_Crash_L0b at hF
    refine b19 ?_
    refine oG fun n21 => W.r ?_
    refine oB 12 hF fun t12 hF => ?_
    refine oV [(0, t0), (1, t1), (2, .int .i64 t2), (11, .int .i64 t11), (12, .bool t12)] (n21 ?_)
    refine W.s (fun K23 n23 e23 q23 p23 => ?_)
    cases t12 with
    | true =>
     refine oT hF fun hF => ?_
     refine oZ (n23 ?_)
     refine oG fun n24 => ?_
     refine W.blockK (by kernel_rfl) (fun K25 n25 s25 o25 q25 p25 => ?_)
     refine oG fun n26 => W.r ?_
     refine oA 13 (.int .i64 t11) ?_
     refine oA 7 (.int .i64 t11) ?_
     refine oV [(0, t0), (1, t1), (2, .int .i64 t2), (7, .int .i64 t11), (11, .int .i64 t11)] (n26 ?_)
     refine oG fun n27 => W.r ?_
     refine oA 8 (.int .i64 0) ?_
     refine oV [(0, t0), (1, t1), (2, .int .i64 t2), (7, .int .i64 t11), (8, .int .i64 0), (11, .int .i64 t11)] (n27 ?_)
     refine W.s (fun K28 n28 e28 q28 p28 => ?_)
     refine oG fun n29 => W.r ?_
     refine oA 14 (.int .i64 t11) ?_
     refine oA 15 t1 ?_
     refine oM 16 32 3 hF fun t16 hF => ?_
     refine oB 17 hF fun t17 hF => ?_
     refine oV [(0, t0), (1, t1), (2, .int .i64 t2), (7, .int .i64 t11), (8, .int .i64 0), (11, .int .i64 t11), (17, .bool t17)] (n29 ?_)
     obtain ⟨k32, e32, hF⟩ := lett_some hF
     have J32 : ∀ (t8 : Int) (h_33 : AHeap), k32 t8 h_33 = some (rR, hR) → Go w0 m0 (Func.ntmps Try.f15) (K28 .normal) [(0, t0), (1, t1), (2, .int .i64 t2), (7, .int .i64 t11), (8, .int .i64 t8), (11, .int .i64 t11)] [] h_33 := by
      intro t8 h_33 hF
      rw [e32] at hF
      refine n28 (W.r ?_)
      refine oA 22 t0 ?_
      refine oA 23 (.int .i64 t11) ?_
      refine oC0 24 hF fun t24 hF => ?_
      refine oF 25 82 0 hF fun t25 hF => ?_
      refine oQ 26 80 79 .i64 hF fun t26 hF => ?_
      refine oA 27 (.int .i64 t8) ?_
      refine oA 28 (.int .i64 t2) ?_
      refine oC hc (some 29) hF fun r29 h_37 hF => ?_
      refine oV [(0, t0), (1, t1), (2, .int .i64 t2), (11, .int .i64 t11)] (n25 (n24 (W.r ?_)))
      refine oI 30 .i64 hF fun t30 hF => ?_
      refine oA 11 (.int .i64 t30) ?_
      refine oV [(0, t0), (1, t1), (2, .int .i64 t2), (11, .int .i64 t30)] (n19 ?_)
      exact gW _ (ih19 _ _ hF)
     cases t17 with
     | true =>
      refine oT hF fun hF => ?_
      refine W.r ?_
      refine oA 18 t1 ?_
      refine oA 19 (.int .i64 t11) ?_
      refine oP 20 32 3 .i64 hF fun t20 hF => ?_
      refine oLi 21 3 hF fun t21 hF => ?_
      refine oA 8 (.int .i64 t21) ?_
      refine oV [(0, t0), (1, t1), (2, .int .i64 t2), (7, .int .i64 t11), (8, .int .i64 t21), (11, .int .i64 t11)] ?_
      exact gW _ (J32 _ _ hF)
     | false =>
      refine oU hF fun hF => ?_
      refine oZ ?_
      exact gW _ (J32 _ _ hF)
    | false =>
     refine oU hF fun hF => ?_
     refine W.exit (by kernel_rfl) ?_
     refine e23 (e19 ?_)
     refine s10 (by kernel_rfl) ?_
     exact gW _ (J11 _ hF)
  exact gW _ (L19 _ _ _ hF)
noncomputable def disk_file_crash (call : CallF) (_ : Nat) (t0 : AV) (t1 : Int) (t2 : Int) (h : AHeap) : R :=
 lett (if 0 > t1 then 0 else t1) fun (t8 : Int) =>
 obind (nilC t0) fun t10 =>
 obind (fldP 4 t10) fun t11 =>
 obind (ldCell h t11) fun v12 =>
 obind (lenL v12) fun t13 =>
 lett (if t13 < t8 then t13 else t8) fun (t14 : Int) =>
 obind (nilC t0) fun t16 =>
 obind (fldP 0 t16) fun t17 =>
 obind (nilC t0) fun t19 =>
 obind (fldP 4 t19) fun t20 =>
 obind (ldCell h t20) fun v21 =>
 outK (sliceA Try.prog h 77 v21 none (some (.int .i64 t14))) fun v23 h_14 =>
 callN (call 61 [t17, v23] h_14) fun _ h_16 =>
 obind (nilC t0) fun t27 =>
 obind (fldP 4 t27) fun t28 =>
 obind (ldCell h_16 t28) fun v29 =>
 obind (lenL v29) fun t30 =>
 lett (decide (t14 < t30)) fun (t31 : Bool) =>
 lett (fun (t35 : Bool) (h_25 : AHeap) =>
  lett (fun  (h_29 : AHeap) =>
   obind (nilC t0) fun t69 =>
   obind (fldP 0 t69) fun t70 =>
   callN (call 63 [t70] h_29) fun r71 h_33 =>
   obind (avAgg r71) fun t71 =>
   obind (nilC t0) fun t72 =>
   obind (fldP 2 t72) fun t73 =>
   obind (stRow h_33 2 t71 t73) fun h_38 =>
   obind (nilC t0) fun t75 =>
   obind (fldP 4 t75) fun t76 =>
   obind (stRow h_38 1 (AV.cells AV.nsl) t76) fun h_42 =>
   some (.ret (.tup []), h_42)) fun k28 =>
  ifB t35
  (
   obind (nilC t0) fun t37 =>
   obind (fldP 4 t37) fun t38 =>
   obind (ldCell h_25 t38) fun v39 =>
   obind (idxP 3 v39 t14) fun t41 =>
   obind (ldRow h_25 3 t41) fun t42 =>
   lett (newH h_25 110 [.int .i64 0, .str 0 0, .int .i64 0]) fun h_50 =>
   obind (stRow h_50 3 t42 (newP h_25)) fun h_52 =>
   obind (ldCell h_52 (AV.ptr (AHeap.next h_25) 0)) fun v44 =>
   obind (avInt .i64 v44) fun t44 =>
   lett ((t44 : Int) == 0) fun (t45 : Bool) =>
   lett (fun (t50 : Bool) (h_58 : AHeap) =>
    lett (fun  (h_62 : AHeap) =>
     k28 h_62) fun k61 =>
    ifB t50
    (
     obind (ldCell h_58 (AV.ptr (AHeap.next h_25) 1)) fun v52 =>
     obind (avStr v52) fun t52 =>
     obind (ldCell h_58 (AV.ptr (AHeap.next h_25) 1)) fun v55 =>
     obind (avStr v55) fun t55 =>
     lett (IntKind.i64.wrap ((lenS t55) - 1)) fun (t57 : Int) =>
     lett (if t57 < t2 then t57 else t2) fun (t58 : Int) =>
     obind (sliceS t52 0 t58) fun t59 =>
     obind (stRow h_58 1 [strA t59] (AV.ptr (AHeap.next h_25) 1)) fun h_71 =>
     obind (nilC t0) fun t62 =>
     obind (fldP 0 t62) fun t63 =>
     obind (ldRow h_71 3 (newP h_25)) fun t64 =>
     outK (bldSl Try.prog h_71 77 1 [(0, .agg t64)]) fun v65 h_76 =>
     callN (call 61 [t63, v65] h_76) fun _ h_78 =>
     k61 h_78)
    (
     k61 h_58)) fun j50 =>
   ifB t45
   (
    obind (ldCell h_52 (AV.ptr (AHeap.next h_25) 1)) fun v48 =>
    obind (avStr v48) fun t48 =>
    lett (!eqS t48 ([] : Bytes)) fun (t49 : Bool) =>
    j50 t49 h_52)
   (
    j50 false h_52))
  (
   k28 h_25)) fun j35 =>
 ifB t31
 (
  lett (decide (t2 > 0)) fun (t34 : Bool) =>
  j35 t34 h_16)
 (
  j35 false h_16)
set_option maxHeartbeats 4000000 in
set_option maxRecDepth 20000 in
theorem disk_file_crash_ok {call : CallF} (hc : SaysAll Try.prog call) {n : Nat} {t0 : AV} {t1 : Int} {t2 : Int} {h : AHeap} {rR : ARes} {hR : AHeap} (hF : disk_file_crash call n t0 t1 t2 h = some (rR, hR)) : Says Try.prog 40 [t0, .int .i64 t1, .int .i64 t2] h rR hR := by
 unfold disk_file_crash at hF
 refine sO Try.func40 fun w0 m0 => ?_
 refine wW [(0, t0), (1, .int .i64 t1), (2, .int .i64 t2)] ?_
 refine oG fun n1 => W.r ?_
 refine oA 7 (.int .i64 t1) ?_
 refine oI 8 .i64 hF fun t8 hF => ?_
 refine oA 9 t0 ?_
 refine oC0 10 hF fun t10 hF => ?_
 refine oF 11 79 2 hF fun t11 hF => ?_
 refine oL 12 77 hF fun v12 hF => ?_
 refine oM 13 77 110 hF fun t13 hF => ?_
 refine oI 14 .i64 hF fun t14 hF => ?_
 refine oA 1 (.int .i64 t14) ?_
 refine oV [(0, t0), (1, .int .i64 t14), (2, .int .i64 t2)] (n1 ?_)
 refine oG fun n8 => ?_
 refine W.draw (by kernel_rfl) (hc.ok w0) (plan := [0, 1, 2, 3, 4, 5, 6, 7, 8, 9]) (by kernel_rfl) (by kernel_rfl) (by kernel_rfl) ?_
 refine WD.a 0 (some 15) t0 h ?_
 obtain ⟨t16, e9, hF⟩ := obind_some hF
 refine WD.b 0 (some 16) t16 h (nil_chk (h := h) e9) ?_
 obtain ⟨t17, e10, hF⟩ := obind_some hF
 refine WD.b 0 (some 17) t17 h (field_ptr (P := Try.prog) (h := h) (s := 79) (f := 0) (by kernel_rfl) e10) ?_
 refine WD.a 0 (some 18) t0 h ?_
 obtain ⟨t19, e11, hF⟩ := obind_some hF
 refine WD.b 0 (some 19) t19 h (nil_chk (h := h) e11) ?_
 obtain ⟨t20, e12, hF⟩ := obind_some hF
 refine WD.b 0 (some 20) t20 h (field_ptr (P := Try.prog) (h := h) (s := 79) (f := 2) (by kernel_rfl) e12) ?_
 obtain ⟨v21, e13, hF⟩ := obind_some hF
 refine WD.b 1 (some 21) v21 h (load_cell (P := Try.prog) (h := h) (t := 77) (by kernel_rfl) e13) ?_
 refine WD.a 0 (some 22) (.int .i64 t14) h ?_
 obtain ⟨v23, h_14, e15, hF⟩ := outK_some hF
 refine WD.b 0 (some 23) v23 h_14 e15 ?_
 obtain ⟨r24, h_16, e17, hF⟩ := callN_some hF
 refine WD.call (d := (some 24)) (by kernel_rfl) (by kernel_rfl) (by kernel_rfl) e17 (k := 2) (by kernel_rfl) (fun _ => (by kernel_rfl)) (by decide) ?_
 refine WD.nil ?_
 refine gW [(0, t0), (1, .int .i64 t14), (2, .int .i64 t2)] (n8 ?_)
 refine W.s (fun K18 n18 e18 q18 p18 => ?_)
 refine W.s (fun K19 n19 e19 q19 p19 => ?_)
 refine W.r ?_
 refine oA 25 (.int .i64 t14) ?_
 refine oA 26 t0 ?_
 refine oC0 27 hF fun t27 hF => ?_
 refine oF 28 79 2 hF fun t28 hF => ?_
 refine oL 29 77 hF fun v29 hF => ?_
 refine oM 30 77 110 hF fun t30 hF => ?_
 refine oB 31 hF fun t31 hF => ?_
 refine oA 32 (.bool t31) ?_
 obtain ⟨j35, e26, hF⟩ := lett_some hF
 have J27 : ∀ (t35 : Bool) (h_25 : AHeap), j35 t35 h_25 = some (rR, hR) → WL Try.prog w0 m0 (Func.ntmps Try.f40) (Code.ops (Code.p1 (Code.p1 (Code.p2 (Code.p2 (codeOf Try.f40)))))) 11 K19 [(0, t0), (1, .int .i64 t14), (2, .int .i64 t2), (35, .bool t35)] [] h_25 := by
  intro t35 h_25 hF
  rw [e26] at hF
  refine oV [(0, t0), (1, .int .i64 t14), (2, .int .i64 t2), (35, .bool t35)] (n19 ?_)
  obtain ⟨k28, e28, hF⟩ := lett_some hF
  have J28 : ∀  (h_29 : AHeap), k28 h_29 = some (rR, hR) → Go w0 m0 (Func.ntmps Try.f40) (K18 .normal) [(0, t0)] [] h_29 := by
   intro  h_29 hF
   rw [e28] at hF
   refine n18 ?_
   refine oG fun n30 => W.r ?_
   refine oA 67 t0 ?_
   refine oA 68 t0 ?_
   refine oC0 69 hF fun t69 hF => ?_
   refine oF 70 79 0 hF fun t70 hF => ?_
   refine oCa hc 71 hF fun t71 h_33 hF => ?_
   refine oC0 72 hF fun t72 hF => ?_
   refine oF 73 79 1 hF fun t73 hF => ?_
   refine oW 76 (.agg t71) hF fun h_38 hF => ?_
   refine oV [(0, t0)] (n30 (W.r ?_))
   refine oA 74 t0 ?_
   refine oC0 75 hF fun t75 hF => ?_
   refine oF 76 79 2 hF fun t76 hF => ?_
   refine oW 77 AV.nsl hF fun h_42 hF => ?_
   refine oV [] ?_
   exact lY hF [] [] res_nil
  cases t35 with
  | true =>
   refine oT hF fun hF => ?_
   refine oG fun n44 => W.r ?_
   refine oA 36 t0 ?_
   refine oC0 37 hF fun t37 hF => ?_
   refine oF 38 79 2 hF fun t38 hF => ?_
   refine oL 39 77 hF fun v39 hF => ?_
   refine oA 40 (.int .i64 t14) ?_
   refine oP 41 77 110 .i64 hF fun t41 hF => ?_
   refine oR 42 110 hF fun t42 hF => ?_
   refine oN 6 hF fun h_50 hF => ?_
   refine oW 110 (.agg t42) hF fun h_52 hF => ?_
   refine oV [(0, t0), (2, .int .i64 t2), (6, (newP h_25))] (n44 ?_)
   refine W.s (fun K54 n54 e54 q54 p54 => ?_)
   refine W.r ?_
   refine oA 43 (AV.ptr (AHeap.next h_25) 0) ?_
   refine oLi 44 108 hF fun t44 hF => ?_
   refine oB 45 hF fun t45 hF => ?_
   refine oA 46 (.bool t45) ?_
   obtain ⟨j50, e59, hF⟩ := lett_some hF
   have J60 : ∀ (t50 : Bool) (h_58 : AHeap), j50 t50 h_58 = some (rR, hR) → WL Try.prog w0 m0 (Func.ntmps Try.f40) (Code.ops (Code.p1 (Code.p2 (Code.p1 (Code.p2 (Code.p1 (Code.p2 (Code.p2 (codeOf Try.f40))))))))) 8 K54 [(0, t0), (2, .int .i64 t2), (6, (newP h_25)), (50, .bool t50)] [] h_58 := by
    intro t50 h_58 hF
    rw [e59] at hF
    refine oV [(0, t0), (2, .int .i64 t2), (6, (newP h_25)), (50, .bool t50)] (n54 ?_)
    obtain ⟨k61, e61, hF⟩ := lett_some hF
    have J61 : ∀  (h_62 : AHeap), k61 h_62 = some (rR, hR) → Go w0 m0 (Func.ntmps Try.f40) (K18 .normal) [(0, t0)] [] h_62 := by
     intro  h_62 hF
     rw [e61] at hF
     exact gW _ (J28 _ hF)
    cases t50 with
    | true =>
     refine oT hF fun hF => ?_
     refine oG fun n63 => W.r ?_
     refine oA 51 (AV.ptr (AHeap.next h_25) 1) ?_
     refine oLs 52 9 hF fun t52 hF => ?_
     refine oA 53 (.int .i64 t2) ?_
     refine oA 54 (AV.ptr (AHeap.next h_25) 1) ?_
     refine oLs 55 9 hF fun t55 hF => ?_
     refine oA 56 (.int .i64 (lenS t55)) ?_
     refine oI 57 .i64 hF fun t57 hF => ?_
     refine oI 58 .i64 hF fun t58 hF => ?_
     obtain ⟨t59, e70, hF⟩ := obind_some hF
     refine WL.b (some 59) (strA t59) h_58 (slice_str (P := Try.prog) (h := h_58) (t := 9) (A := none) (B := (some (.int .i64 t58))) (by kernel_rfl) (.inr ⟨rfl, rfl⟩) (.inl ⟨_, rfl⟩) e70) ?_
     refine oA 60 (AV.ptr (AHeap.next h_25) 1) ?_
     refine oW 9 (strA t59) hF fun h_71 hF => ?_
     refine oV [(0, t0), (6, (newP h_25))] (n63 ?_)
     refine W.draw (by kernel_rfl) (hc.ok w0) (plan := [0, 1, 2, 3, 4, 5]) (by kernel_rfl) (by kernel_rfl) (by kernel_rfl) ?_
     refine WD.a 0 (some 61) t0 h_71 ?_
     obtain ⟨t62, e73, hF⟩ := obind_some hF
     refine WD.b 0 (some 62) t62 h_71 (nil_chk (h := h_71) e73) ?_
     obtain ⟨t63, e74, hF⟩ := obind_some hF
     refine WD.b 0 (some 63) t63 h_71 (field_ptr (P := Try.prog) (h := h_71) (s := 79) (f := 0) (by kernel_rfl) e74) ?_
     obtain ⟨t64, e75, hF⟩ := obind_some hF
     refine WD.b 1 (some 64) (.agg t64) h_71 (load_row (P := Try.prog) (h := h_71) (t := 110) (by kernel_rfl) (by kernel_rfl) e75) ?_
     obtain ⟨v65, h_76, e77, hF⟩ := outK_some hF
     refine WD.val (d := (some 65)) (v := v65) (h' := h_76) (by kernel_rfl) (by kernel_rfl) (Eq.trans (by kernel_rfl) e77) (k := 2) (by kernel_rfl) (fun _ => (by kernel_rfl)) (by decide) ?_
     obtain ⟨r66, h_78, e79, hF⟩ := callN_some hF
     refine WD.call (d := (some 66)) (by kernel_rfl) (by kernel_rfl) (by kernel_rfl) e79 (k := 2) (by kernel_rfl) (fun _ => (by kernel_rfl)) (by decide) ?_
     refine WD.nil ?_
     refine gW [(0, t0)] ?_
     exact gW _ (J61 _ hF)
    | false =>
     refine oU hF fun hF => ?_
     refine oZ ?_
     exact gW _ (J61 _ hF)
   cases t45 with
   | true =>
    replace hF := ifB_t hF
    refine oA 47 (AV.ptr (AHeap.next h_25) 1) ?_
    refine oLs 48 9 hF fun t48 hF => ?_
    refine oB 49 hF fun t49 hF => ?_
    refine oA 50 (.bool t49) ?_
    exact lW _ (J60 _ _ hF)
   | false =>
    replace hF := ifB_f hF
    refine WL.o (some 47) ?_
    refine WL.o (some 48) ?_
    refine WL.o (some 49) ?_
    refine oA 50 (.bool false) ?_
    exact lW _ (J60 _ _ hF)
  | false =>
   refine oU hF fun hF => ?_
   refine oZ ?_
   exact gW _ (J28 _ hF)
 cases t31 with
 | true =>
  replace hF := ifB_t hF
  refine oA 33 (.int .i64 t2) ?_
  refine oB 34 hF fun t34 hF => ?_
  refine oA 35 (.bool t34) ?_
  exact lW _ (J27 _ _ hF)
 | false =>
  replace hF := ifB_f hF
  refine WL.o (some 33) ?_
  refine WL.o (some 34) ?_
  refine oA 35 (.bool false) ?_
  exact lW _ (J27 _ _ hF)
noncomputable def disk_content_copy (call : CallF) (_ : Nat) (t0 : AV) (h : AHeap) : R :=
 lett (newH h 76 [.bool false, .nsl]) fun h_2 =>
 obind (nilC t0) fun t4 =>
 obind (fldP 0 t4) fun t5 =>
 obind (ldCell h_2 t5) fun v6 =>
 obind (avBool v6) fun t6 =>
 obind (nilC t0) fun t8 =>
 obind (fldP 1 t8) fun t9 =>
 obind (ldCell h_2 t9) fun v10 =>
 callN (call 77 [v10] h_2) fun r11 h_12 =>
 chk (true && (reLoad Try.prog h_12 4 t5 (.bool t6) && true)) <|
 obind (bldS Try.prog 76 [(0, .bool t6), (1, r11)]) fun t12 =>
 obind (stRow h_12 2 t12 (newP h)) fun h_16 =>
 obind (ldRow h_16 2 (newP h)) fun w2 =>
 some (.ret (.agg w2), h_16)
set_option maxHeartbeats 4000000 in
set_option maxRecDepth 20000 in
theorem disk_content_copy_ok {call : CallF} (hc : SaysAll Try.prog call) {n : Nat} {t0 : AV} {h : AHeap} {rR : ARes} {hR : AHeap} (hF : disk_content_copy call n t0 h = some (rR, hR)) : Says Try.prog 63 [t0] h rR hR := by
 unfold disk_content_copy at hF
 refine sO Try.func63 fun w0 m0 => ?_
 refine wW [(0, t0)] ?_
 refine oG fun n1 => W.r ?_
 refine oN 2 hF fun h_2 hF => ?_
 refine oV [(0, t0), (2, (newP h))] (n1 ?_)
 refine oG fun n4 => ?_
 refine W.draw (by kernel_rfl) (hc.ok w0) (plan := [0, 1, 2, 3, 4, 5, 6, 7, 8, 9, 10]) (by kernel_rfl) (by kernel_rfl) (by kernel_rfl) ?_
 refine WD.a 0 (some 3) t0 h_2 ?_
 obtain ⟨t4, e5, hF⟩ := obind_some hF
 refine WD.b 0 (some 4) t4 h_2 (nil_chk (h := h_2) e5) ?_
 obtain ⟨t5, e6, hF⟩ := obind_some hF
 refine WD.b 0 (some 5) t5 h_2 (field_ptr (P := Try.prog) (h := h_2) (s := 76) (f := 0) (by kernel_rfl) e6) ?_
 replace hF := obind_some hF; obtain ⟨v6, e7, hF⟩ := hF
 replace hF := obind_some hF; obtain ⟨t6, c8, hF⟩ := hF
 have c8 := avBool_some c8
 subst c8
 refine WD.b 1 (some 6) (.bool t6) h_2 (load_cell (P := Try.prog) (h := h_2) (t := 4) (by kernel_rfl) e7) ?_
 refine WD.a 0 (some 7) t0 h_2 ?_
 obtain ⟨t8, e9, hF⟩ := obind_some hF
 refine WD.b 0 (some 8) t8 h_2 (nil_chk (h := h_2) e9) ?_
 obtain ⟨t9, e10, hF⟩ := obind_some hF
 refine WD.b 0 (some 9) t9 h_2 (field_ptr (P := Try.prog) (h := h_2) (s := 76) (f := 1) (by kernel_rfl) e10) ?_
 obtain ⟨v10, e11, hF⟩ := obind_some hF
 refine WD.b 1 (some 10) v10 h_2 (load_cell (P := Try.prog) (h := h_2) (t := 74) (by kernel_rfl) e11) ?_
 obtain ⟨r11, h_12, e13, hF⟩ := callN_some hF
 obtain ⟨k14, hF⟩ := chk_some hF
 refine WD.call (d := (some 11)) (by kernel_rfl) (by kernel_rfl) (by kernel_rfl) e13 (k := 2) (by kernel_rfl) (fun _ => (Eq.trans (by kernel_rfl) k14)) (by decide) ?_
 obtain ⟨t12, e15, hF⟩ := obind_some hF
 refine WD.val (d := (some 12)) (v := .agg t12) (h' := h_12) (by kernel_rfl) (by kernel_rfl) (bld_ok (by kernel_rfl) e15) (k := 0) (by kernel_rfl) (fun e => absurd e (by decide)) (by decide) ?_
 obtain ⟨h_16, e17, hF⟩ := obind_some hF
 refine WD.eff (h' := h_16) (by kernel_rfl) (by kernel_rfl) (Eq.trans (by kernel_rfl) (store_row (P := Try.prog) (h := h_12) (t := 76) (v := (.agg t12)) (by kernel_rfl) (by kernel_rfl) e17)) (k := 2) (by kernel_rfl) (fun _ => (by kernel_rfl)) (by decide) ?_
 refine WD.nil ?_
 refine gW [(2, (newP h))] (n4 (oY ?_))
 obtain ⟨w2, e18, hF⟩ := obind_some hF
 exact lZ hF [.cell 2 76] [.agg w2] (rY e18 res_nil)
noncomputable def slices_Clone___byte_byte_ (_ : CallF) (_ : Nat) (t0 : AV) (h : AHeap) : R :=
 outK (opBin Try.prog h .eql 74 true (some t0) (some AV.nsl)) fun v4 h_4 =>
 obind (avBool v4) fun t4 =>
 ifB t4
 (
  some (.ret (AV.nsl), h_4))
 (
  outK (bldSl Try.prog h_4 74 0 []) fun v5 h_9 =>
  outK (opAppend Try.prog h_9 74 74 v5 t0) fun v7 h_11 =>
  some (.ret (v7), h_11))
set_option maxHeartbeats 4000000 in
set_option maxRecDepth 20000 in
theorem slices_Clone___byte_byte__ok {call : CallF} (_ : SaysAll Try.prog call) {n : Nat} {t0 : AV} {h : AHeap} {rR : ARes} {hR : AHeap} (hF : slices_Clone___byte_byte_ call n t0 h = some (rR, hR)) : Says Try.prog 77 [t0] h rR hR := by
 unfold slices_Clone___byte_byte_ at hF
 refine sO Try.func77 fun w0 m0 => ?_
 refine wW [(0, t0)] ?_
 refine oG fun n1 => W.r ?_
 refine oA 2 AV.nsl ?_
 refine oV [(0, t0)] (n1 ?_)
 refine oH fun n2 q2 => ?_
 refine oG fun n3 => W.r ?_
 refine oA 3 t0 ?_
 replace hF := outK_some hF; obtain ⟨v4, h_4, e5, hF⟩ := hF
 replace hF := obind_some hF; obtain ⟨t4, c6, hF⟩ := hF
 have c6 := avBool_some c6
 subst c6
 refine WL.b (some 4) (.bool t4) h_4 e5 ?_
 refine oV [(0, t0), (4, .bool t4)] (n3 ?_)
 cases t4 with
 | true =>
  refine oT hF fun hF => ?_
  refine oG fun n7 => W.r ?_
  refine oA 2 AV.nsl ?_
  refine oV [(2, AV.nsl)] (n7 (oY (q2 ?_)))
  exact lZ hF [.tmp 2] [AV.nsl] (rT res_nil)
 | false =>
  refine oU hF fun hF => ?_
  refine oZ (n2 ?_)
  refine oG fun n8 => W.r ?_
  refine oK 5 hF fun v5 h_9 hF => ?_
  refine oA 6 t0 ?_
  refine oK 7 hF fun v7 h_11 hF => ?_
  refine oA 2 v7 ?_
  refine oV [(2, v7)] (n8 (oY ?_))
  exact lZ hF [.tmp 2] [v7] (rT res_nil)
noncomputable def disk_Disk_Files_L0b (t0 : AV) (k12 : AV → AHeap → R) (self : AV → Int → AHeap → R) (t3_16 : AV) (t7 : Int) (h_17 : AHeap) : R :=
 lett (decide (t7 < 32)) fun (t8 : Bool) =>
 ifB t8
 (
  obind (nilC t0) fun t12 =>
  obind (fldP 0 t12) fun t13 =>
  obind (idxA 32 5 t13 t7) fun t14 =>
  obind (fldP 2 t14) fun t15 =>
  obind (fldP 0 t15) fun t16 =>
  obind (ldCell h_17 t16) fun v17 =>
  obind (avBool v17) fun t17 =>
  lett (fun (t3_33 : AV) (h_34 : AHeap) =>
   lett (IntKind.i64.wrap (t7 + 1)) fun (t22 : Int) =>
   self t3_33 t22 h_34) fun k32 =>
  ifB t17
  (
   outK (bldSl Try.prog h_17 32 1 [(0, .int .i64 t7)]) fun v20 h_36 =>
   outK (opAppend Try.prog h_36 32 32 t3_16 v20) fun v21 h_38 =>
   k32 v21 h_38)
  (
   k32 t3_16 h_17))
 (
  k12 t3_16 h_17)
noncomputable def disk_Disk_Files_L0 (t0 : AV) (k12 : AV → AHeap → R) : Nat → AV → Int → AHeap → R := iterR (fun _ _ _ => none) (disk_Disk_Files_L0b t0 k12)
theorem disk_Disk_Files_L0_s (t0 : AV) (k12 : AV → AHeap → R) (m : Nat) : disk_Disk_Files_L0 t0 k12 (m + 1) = disk_Disk_Files_L0b t0 k12 (disk_Disk_Files_L0 t0 k12 m) := rfl
noncomputable def disk_Disk_Files (_ : CallF) (n : Nat) (t0 : AV) (h : AHeap) : R :=
 outK (opBin Try.prog h .eql 23 true (some t0) (some AV.nilp)) fun v6 h_4 =>
 obind (avBool v6) fun t6 =>
 ifB t6
 (
  some (.ret (AV.nsl), h_4))
 (
  lett (fun (t3 : AV) (h_13 : AHeap) =>
   some (.ret (t3), h_13)) fun k12 =>
  disk_Disk_Files_L0 t0 k12 n AV.nsl 0 h_4)
set_option maxHeartbeats 4000000 in
set_option maxRecDepth 20000 in
theorem disk_Disk_Files_ok {call : CallF} (_ : SaysAll Try.prog call) {n : Nat} {t0 : AV} {h : AHeap} {rR : ARes} {hR : AHeap} (hF : disk_Disk_Files call n t0 h = some (rR, hR)) : Says Try.prog 12 [t0] h rR hR := by
 unfold disk_Disk_Files at hF
 refine sO Try.func12 fun w0 m0 => ?_
 refine wW [(0, t0)] ?_
 refine oG fun n1 => W.r ?_
 refine oA 2 AV.nsl ?_
 refine oV [(0, t0)] (n1 ?_)
 refine oH fun n2 q2 => ?_
 refine oG fun n3 => W.r ?_
 refine oA 5 t0 ?_
 replace hF := outK_some hF; obtain ⟨v6, h_4, e5, hF⟩ := hF
 replace hF := obind_some hF; obtain ⟨t6, c6, hF⟩ := hF
 have c6 := avBool_some c6
 subst c6
 refine WL.b (some 6) (.bool t6) h_4 e5 ?_
 refine oV [(0, t0), (6, .bool t6)] (n3 ?_)
 cases t6 with
 | true =>
  refine oT hF fun hF => ?_
  refine oG fun n7 => W.r ?_
  refine oA 2 AV.nsl ?_
  refine oV [(2, AV.nsl)] (n7 (oY (q2 ?_)))
  exact lZ hF [.tmp 2] [AV.nsl] (rT res_nil)
 | false =>
  refine oU hF fun hF => ?_
  refine oZ (n2 ?_)
  refine oG fun n8 => W.r ?_
  refine oA 3 AV.nsl ?_
  refine oV [(0, t0), (3, AV.nsl)] (n8 ?_)
  refine W.s (fun K9 n9 e9 q9 p9 => ?_)
  refine oG fun n10 => W.r ?_
  refine oA 7 (.int .i64 0) ?_
  refine oV [(0, t0), (3, AV.nsl), (7, .int .i64 0)] (n10 ?_)
  obtain ⟨k12, e12, hF⟩ := lett_some hF
  have J12 : ∀ (t3 : AV) (h_13 : AHeap), k12 t3 h_13 = some (rR, hR) → Go w0 m0 (Func.ntmps Try.f12) (K9 .normal) [(3, t3)] [] h_13 := by
   intro t3 h_13 hF
   rw [e12] at hF
   refine n9 ?_
   refine oG fun n14 => W.r ?_
   refine oA 23 t3 ?_
   refine oA 2 t3 ?_
   refine oV [(2, t3)] (n14 (oY ?_))
   exact lZ hF [.tmp 2] [t3] (rT res_nil)
  refine W.blockK (by kernel_rfl) (fun K11 n11 s11 o11 q11 p11 => ?_)
  refine W.loopK (by kernel_rfl) (fun I15 K15 b15 n15 e15 q15 p15 => ?_)
  have L15 : ∀ (m : Nat) (t3_16 : AV) (t7 : Int) (h_17 : AHeap), disk_Disk_Files_L0 t0 k12 m t3_16 t7 h_17 = some (rR, hR) → Go w0 m0 (Func.ntmps Try.f12) I15 [(0, t0), (3, t3_16), (7, .int .i64 t7)] [] h_17 := by
   intro m
   induction m with
   | zero => intro t3_16 t7 h_17 hF; cases hF
   | succ m ih15 =>
    intro t3_16 t7 h_17 hF
    rw [disk_Disk_Files_L0_s] at hF; unfold disk_Disk_Files_L0b at hF
    refine b15 ?_
    refine oG fun n18 => W.r ?_
    refine oB 8 hF fun t8 hF => ?_
    refine oV [(0, t0), (3, t3_16), (7, .int .i64 t7), (8, .bool t8)] (n18 ?_)
    refine W.s (fun K20 n20 e20 q20 p20 => ?_)
    cases t8 with
    | true =>
     refine oT hF fun hF => ?_
     refine oZ (n20 ?_)
     refine oG fun n21 => ?_
     refine W.blockK (by kernel_rfl) (fun K22 n22 s22 o22 q22 p22 => ?_)
     refine oG fun n23 => W.r ?_
     refine oA 9 (.int .i64 t7) ?_
     refine oA 4 (.int .i64 t7) ?_
     refine oV [(0, t0), (3, t3_16), (4, .int .i64 t7), (7, .int .i64 t7)] (n23 ?_)
     refine oG fun n24 => W.r ?_
     refine oA 10 t0 ?_
     refine oA 11 (.int .i64 t7) ?_
     refine oC0 12 hF fun t12 hF => ?_
     refine oF 13 82 0 hF fun t13 hF => ?_
     refine oQ 14 80 79 .i64 hF fun t14 hF => ?_
     refine oF 15 79 1 hF fun t15 hF => ?_
     refine oF 16 76 0 hF fun t16 hF => ?_
     refine oLb 17 4 hF fun t17 hF => ?_
     refine oV [(0, t0), (3, t3_16), (4, .int .i64 t7), (7, .int .i64 t7), (17, .bool t17)] (n24 ?_)
     obtain ⟨k32, e32, hF⟩ := lett_some hF
     have J32 : ∀ (t3_33 : AV) (h_34 : AHeap), k32 t3_33 h_34 = some (rR, hR) → Go w0 m0 (Func.ntmps Try.f12) (K22 .normal) [(0, t0), (3, t3_33), (7, .int .i64 t7)] [] h_34 := by
      intro t3_33 h_34 hF
      rw [e32] at hF
      refine n22 (n21 (W.r ?_))
      refine oI 22 .i64 hF fun t22 hF => ?_
      refine oA 7 (.int .i64 t22) ?_
      refine oV [(0, t0), (3, t3_33), (7, .int .i64 t22)] (n15 ?_)
      exact gW _ (ih15 _ _ _ hF)
     cases t17 with
     | true =>
      refine oT hF fun hF => ?_
      refine W.r ?_
      refine oA 18 t3_16 ?_
      refine oA 19 (.int .i64 t7) ?_
      refine oK 20 hF fun v20 h_36 hF => ?_
      refine oK 21 hF fun v21 h_38 hF => ?_
      refine oA 3 v21 ?_
      refine oV [(0, t0), (3, v21), (7, .int .i64 t7)] ?_
      exact gW _ (J32 _ _ hF)
     | false =>
      refine oU hF fun hF => ?_
      refine oZ ?_
      exact gW _ (J32 _ _ hF)
    | false =>
     refine oU hF fun hF => ?_
     refine W.exit (by kernel_rfl) ?_
     refine e20 (e15 ?_)
     refine s11 (by kernel_rfl) ?_
     exact gW _ (J12 _ _ hF)
  exact gW _ (L15 _ _ _ _ hF)
noncomputable def sum_More_L0b (t1 : Bytes) (h : AHeap) (k13 : Int → AHeap → R) (self : Int → Int → AHeap → R) (t6_18 : Int) (t13 : Int) (h_19 : AHeap) : R :=
 lett (decide (t13 < (lenS t1))) fun (t14 : Bool) =>
 ifB t14
 (
  obind (idxS t1 t13) fun t19 =>
  lett (IntKind.u32.wrap t19) fun (t20 : Int) =>
  lett (xorI .u32 t6_18 t20) fun (t21 : Int) =>
  obind (shrI .u32 t21 4) fun t23 =>
  obind (remI .u32 t21 16) fun t25 =>
  obind (idxA 16 1 (newP h) t25) fun t26 =>
  obind (ldCell h_19 t26) fun v27 =>
  obind (avInt .u32 v27) fun t27 =>
  lett (xorI .u32 t23 t27) fun (t28 : Int) =>
  obind (shrI .u32 t28 4) fun t30 =>
  obind (remI .u32 t28 16) fun t32 =>
  obind (idxA 16 1 (newP h) t32) fun t33 =>
  obind (ldCell h_19 t33) fun v34 =>
  obind (avInt .u32 v34) fun t34 =>
  lett (xorI .u32 t30 t34) fun (t35 : Int) =>
  lett (IntKind.i64.wrap (t13 + 1)) fun (t36 : Int) =>
  self t35 t36 h_19)
 (
  k13 t6_18 h_19)
noncomputable def sum_More_L0 (t1 : Bytes) (h : AHeap) (k13 : Int → AHeap → R) : Nat → Int → Int → AHeap → R := iterR (fun _ _ _ => none) (sum_More_L0b t1 h k13)
theorem sum_More_L0_s (t1 : Bytes) (h : AHeap) (k13 : Int → AHeap → R) (m : Nat) : sum_More_L0 t1 h k13 (m + 1) = sum_More_L0b t1 h k13 (sum_More_L0 t1 h k13 m) := rfl
noncomputable def sum_More (_ : CallF) (n : Nat) (t0 : Int) (t1 : Bytes) (h : AHeap) : R :=
 obind (bldS Try.prog 160 [(0, .int .u32 0), (1, .int .u32 274646895), (2, .int .u32 549293790), (3, .int .u32 820201905), (4, .int .u32 1098587580), (5, .int .u32 1361435347), (6, .int .u32 1640403810), (7, .int .u32 1905808397), (8, .int .u32 2197175160), (9, .int .u32 2460548119), (10, .int .u32 2722870694), (11, .int .u32 2987750089), (12, .int .u32 3280807620), (13, .int .u32 3553878443), (14, .int .u32 3811616794), (15, .int .u32 4084100981)]) fun t8 =>
 lett (newH h 160 [.int .u32 0, .int .u32 0, .int .u32 0, .int .u32 0, .int .u32 0, .int .u32 0, .int .u32 0, .int .u32 0, .int .u32 0, .int .u32 0, .int .u32 0, .int .u32 0, .int .u32 0, .int .u32 0, .int .u32 0, .int .u32 0]) fun h_4 =>
 obind (stRow h_4 16 t8 (newP h)) fun h_6 =>
 lett (comI .u32 t0) fun (t10 : Int) =>
 lett (fun (t6 : Int) (h_14 : AHeap) =>
  lett (comI .u32 t6) fun (t38 : Int) =>
  some (.ret (.int .u32 t38), h_14)) fun k13 =>
 sum_More_L0 t1 h k13 n t10 0 h_6
set_option maxHeartbeats 4000000 in
set_option maxRecDepth 20000 in
theorem sum_More_ok {call : CallF} (_ : SaysAll Try.prog call) {n : Nat} {t0 : Int} {t1 : Bytes} {h : AHeap} {rR : ARes} {hR : AHeap} (hF : sum_More call n t0 t1 h = some (rR, hR)) : Says Try.prog 87 [.int .u32 t0, strA t1] h rR hR := by
 unfold sum_More at hF
 refine sO Try.func87 fun w0 m0 => ?_
 refine wW [(0, .int .u32 t0), (1, strA t1)] ?_
 refine oG fun n1 => W.r ?_
 refine oA 4 (.int .u32 0) ?_
 refine oV [(0, .int .u32 t0), (1, strA t1)] (n1 ?_)
 refine oG fun n2 => W.r ?_
 obtain ⟨t8, e3, hF⟩ := obind_some hF
 refine WL.val (d := (some 8)) (v := .agg t8) (h' := h) (by kernel_rfl) (by kernel_rfl) (bld_ok (by kernel_rfl) e3) ?_
 refine oN 5 hF fun h_4 hF => ?_
 refine oW 160 (.agg t8) hF fun h_6 hF => ?_
 refine oV [(0, .int .u32 t0), (1, strA t1), (5, (newP h))] (n2 ?_)
 refine oG fun n8 => W.r ?_
 refine oA 9 (.int .u32 t0) ?_
 refine oI 10 .u32 hF fun t10 hF => ?_
 refine oA 6 (.int .u32 t10) ?_
 refine oV [(1, strA t1), (5, (newP h)), (6, .int .u32 t10)] (n8 ?_)
 refine W.s (fun K10 n10 e10 q10 p10 => ?_)
 refine oG fun n11 => W.r ?_
 refine oA 11 (strA t1) ?_
 refine oA 12 (.int .i64 (lenS t1)) ?_
 refine oA 13 (.int .i64 0) ?_
 refine oV [(1, strA t1), (5, (newP h)), (6, .int .u32 t10), (12, .int .i64 (lenS t1)), (13, .int .i64 0)] (n11 ?_)
 obtain ⟨k13, e13, hF⟩ := lett_some hF
 have J13 : ∀ (t6 : Int) (h_14 : AHeap), k13 t6 h_14 = some (rR, hR) → Go w0 m0 (Func.ntmps Try.f87) (K10 .normal) [(6, .int .u32 t6)] [] h_14 := by
  intro t6 h_14 hF
  rw [e13] at hF
  refine n10 ?_
  refine oG fun n15 => W.r ?_
  refine oA 37 (.int .u32 t6) ?_
  refine oI 38 .u32 hF fun t38 hF => ?_
  refine oA 4 (.int .u32 t38) ?_
  refine oV [(4, .int .u32 t38)] (n15 (oY ?_))
  exact lZ hF [.tmp 4] [.int .u32 t38] (rT res_nil)
 refine W.blockK (by kernel_rfl) (fun K12 n12 s12 o12 q12 p12 => ?_)
 refine W.loopK (by kernel_rfl) (fun I17 K17 b17 n17 e17 q17 p17 => ?_)
 have L17 : ∀ (m : Nat) (t6_18 : Int) (t13 : Int) (h_19 : AHeap), sum_More_L0 t1 h k13 m t6_18 t13 h_19 = some (rR, hR) → Go w0 m0 (Func.ntmps Try.f87) I17 [(1, strA t1), (5, (newP h)), (6, .int .u32 t6_18), (12, .int .i64 (lenS t1)), (13, .int .i64 t13)] [] h_19 := by
  intro m
  induction m with
  | zero => intro t6_18 t13 h_19 hF; cases hF
  | succ m ih17 =>
   intro t6_18 t13 h_19 hF
   rw [sum_More_L0_s] at hF; unfold sum_More_L0b at hF
   refine b17 ?_
   refine oG fun n20 => W.r ?_
   refine oB 14 hF fun t14 hF => ?_
   refine oV [(1, strA t1), (5, (newP h)), (6, .int .u32 t6_18), (12, .int .i64 (lenS t1)), (13, .int .i64 t13), (14, .bool t14)] (n20 ?_)
   refine W.s (fun K22 n22 e22 q22 p22 => ?_)
   cases t14 with
   | true =>
    refine oT hF fun hF => ?_
    refine oZ (n22 ?_)
    refine oG fun n23 => ?_
    refine W.blockK (by kernel_rfl) (fun K24 n24 s24 o24 q24 p24 => ?_)
    refine oG fun n25 => W.r ?_
    refine oA 15 (.int .i64 t13) ?_
    refine oA 7 (.int .i64 t13) ?_
    refine oV [(1, strA t1), (5, (newP h)), (6, .int .u32 t6_18), (7, .int .i64 t13), (12, .int .i64 (lenS t1)), (13, .int .i64 t13)] (n25 ?_)
    refine oG fun n26 => W.r ?_
    refine oA 16 (.int .u32 t6_18) ?_
    refine oA 17 (strA t1) ?_
    refine oA 18 (.int .i64 t13) ?_
    refine oX 19 9 .i64 hF fun t19 hF => ?_
    refine oI 20 .u32 hF fun t20 hF => ?_
    refine oI 21 .u32 hF fun t21 hF => ?_
    refine oA 6 (.int .u32 t21) ?_
    refine oV [(1, strA t1), (5, (newP h)), (6, .int .u32 t21), (12, .int .i64 (lenS t1)), (13, .int .i64 t13)] (n26 ?_)
    refine oG fun n30 => W.r ?_
    refine oA 22 (.int .u32 t21) ?_
    obtain ⟨t23, e31, hF⟩ := obind_some hF
    refine WL.b (some 23) (.int .u32 t23) h_19 (shr_int (P := Try.prog) (h := h_19) (t := 148) (k' := .u64) (lit := true) e31) ?_
    refine oA 24 (.int .u32 t21) ?_
    obtain ⟨t25, e32, hF⟩ := obind_some hF
    refine WL.b (some 25) (.int .u32 t25) h_19 (rem_int (P := Try.prog) (h := h_19) (t := 148) (lit := true) e32) ?_
    refine oQ 26 160 148 .u32 hF fun t26 hF => ?_
    refine oLi 27 148 hF fun t27 hF => ?_
    refine oI 28 .u32 hF fun t28 hF => ?_
    refine oA 6 (.int .u32 t28) ?_
    refine oV [(1, strA t1), (5, (newP h)), (6, .int .u32 t28), (12, .int .i64 (lenS t1)), (13, .int .i64 t13)] (n30 (W.r ?_))
    refine oA 29 (.int .u32 t28) ?_
    obtain ⟨t30, e37, hF⟩ := obind_some hF
    refine WL.b (some 30) (.int .u32 t30) h_19 (shr_int (P := Try.prog) (h := h_19) (t := 148) (k' := .u64) (lit := true) e37) ?_
    refine oA 31 (.int .u32 t28) ?_
    obtain ⟨t32, e38, hF⟩ := obind_some hF
    refine WL.b (some 32) (.int .u32 t32) h_19 (rem_int (P := Try.prog) (h := h_19) (t := 148) (lit := true) e38) ?_
    refine oQ 33 160 148 .u32 hF fun t33 hF => ?_
    refine oLi 34 148 hF fun t34 hF => ?_
    refine oI 35 .u32 hF fun t35 hF => ?_
    refine oA 6 (.int .u32 t35) ?_
    refine oV [(1, strA t1), (5, (newP h)), (6, .int .u32 t35), (12, .int .i64 (lenS t1)), (13, .int .i64 t13)] (n24 (n23 (W.r ?_)))
    refine oI 36 .i64 hF fun t36 hF => ?_
    refine oA 13 (.int .i64 t36) ?_
    refine oV [(1, strA t1), (5, (newP h)), (6, .int .u32 t35), (12, .int .i64 (lenS t1)), (13, .int .i64 t36)] (n17 ?_)
    exact gW _ (ih17 _ _ _ hF)
   | false =>
    refine oU hF fun hF => ?_
    refine W.exit (by kernel_rfl) ?_
    refine e22 (e17 ?_)
    refine s12 (by kernel_rfl) ?_
    exact gW _ (J13 _ _ hF)
 exact gW _ (L17 _ _ _ _ hF)
noncomputable def sum_Of (call : CallF) (_ : Nat) (t0 : Bytes) (h : AHeap) : R :=
 callN (call 87 [.int .u32 0, strA t0] h) fun r4 h_3 =>
 obind (avInt .u32 r4) fun t4 =>
 some (.ret (.int .u32 t4), h_3)
set_option maxHeartbeats 4000000 in
set_option maxRecDepth 20000 in
theorem sum_Of_ok {call : CallF} (hc : SaysAll Try.prog call) {n : Nat} {t0 : Bytes} {h : AHeap} {rR : ARes} {hR : AHeap} (hF : sum_Of call n t0 h = some (rR, hR)) : Says Try.prog 84 [strA t0] h rR hR := by
 unfold sum_Of at hF
 refine sO Try.func84 fun w0 m0 => ?_
 refine wW [(0, strA t0)] ?_
 refine oG fun n1 => W.r ?_
 refine oA 2 (.int .u32 0) ?_
 refine oV [(0, strA t0)] (n1 ?_)
 refine oG fun n2 => W.r ?_
 refine oA 3 (strA t0) ?_
 refine oCi hc 4 hF fun t4 h_3 hF => ?_
 refine oA 2 (.int .u32 t4) ?_
 refine oV [(2, .int .u32 t4)] (n2 (oY ?_))
 exact lZ hF [.tmp 2] [.int .u32 t4] (rT res_nil)
noncomputable def frame_summed (call : CallF) (_ : Nat) (t0 : Bytes) (h : AHeap) : R :=
 callN (call 84 [strA t0] h) fun r5 h_3 =>
 obind (avInt .u32 r5) fun t5 =>
 callN (call 75 [.int .u32 t5] h_3) fun r6 h_6 =>
 obind (avStr r6) fun t6 =>
 obind (addS t0 t6) fun t7 =>
 some (.ret (strA t7), h_6)
set_option maxHeartbeats 4000000 in
set_option maxRecDepth 20000 in
theorem frame_summed_ok {call : CallF} (hc : SaysAll Try.prog call) {n : Nat} {t0 : Bytes} {h : AHeap} {rR : ARes} {hR : AHeap} (hF : frame_summed call n t0 h = some (rR, hR)) : Says Try.prog 74 [strA t0] h rR hR := by
 unfold frame_summed at hF
 refine sO Try.func74 fun w0 m0 => ?_
 refine wW [(0, strA t0)] ?_
 refine oG fun n1 => W.r ?_
 refine oA 2 (strA ([] : Bytes)) ?_
 refine oV [(0, strA t0)] (n1 ?_)
 refine oG fun n2 => W.r ?_
 refine oA 3 (strA t0) ?_
 refine oA 4 (strA t0) ?_
 refine oCi hc 5 hF fun t5 h_3 hF => ?_
 refine oCs hc 6 hF fun t6 h_6 hF => ?_
 obtain ⟨t7, e9, hF⟩ := obind_some hF
 refine WL.b (some 7) (strA t7) h_6 (add_str (P := Try.prog) (h := h_6) (t := 9) (lit := false) e9) ?_
 refine oA 2 (strA t7) ?_
 refine oV [(2, strA t7)] (n2 (oY ?_))
 exact lZ hF [.tmp 2] [strA t7] (rT res_nil)
noncomputable def frame_whole (call : CallF) (_ : Nat) (t0 : Bytes) (h : AHeap) : R :=
 lett (IntKind.i64.wrap ((lenS t0) - 4)) fun (t6 : Int) =>
 obind (sliceS t0 t6 (lenS t0)) fun t9 =>
 obind (sliceS t0 0 t6) fun t14 =>
 callN (call 70 [strA t9] h) fun r10 h_7 =>
 callN (call 79 [r10] h_7) fun r11 h_9 =>
 obind (avInt .u32 r11) fun t11 =>
 callN (call 84 [strA t14] h_9) fun r15 h_12 =>
 obind (avInt .u32 r15) fun t15 =>
 lett ((t11 : Int) == t15) fun (t16 : Bool) =>
 some (.ret (.bool t16), h_12)
set_option maxHeartbeats 4000000 in
set_option maxRecDepth 20000 in
theorem frame_whole_ok {call : CallF} (hc : SaysAll Try.prog call) {n : Nat} {t0 : Bytes} {h : AHeap} {rR : ARes} {hR : AHeap} (hF : frame_whole call n t0 h = some (rR, hR)) : Says Try.prog 80 [strA t0] h rR hR := by
 unfold frame_whole at hF
 refine sO Try.func80 fun w0 m0 => ?_
 refine wW [(0, strA t0)] ?_
 refine oG fun n1 => W.r ?_
 refine oA 2 (.bool false) ?_
 refine oV [(0, strA t0)] (n1 ?_)
 refine oG fun n2 => W.r ?_
 refine oA 4 (strA t0) ?_
 refine oA 5 (.int .i64 (lenS t0)) ?_
 refine oI 6 .i64 hF fun t6 hF => ?_
 refine oA 3 (.int .i64 t6) ?_
 refine oV [(0, strA t0), (3, .int .i64 t6)] (n2 ?_)
 refine oG fun n4 => ?_
 refine W.draw (by kernel_rfl) (hc.ok w0) (plan := [0, 1, 2, 5, 6, 7, 3, 4, 8, 9, 10]) (by kernel_rfl) (by kernel_rfl) (by kernel_rfl) ?_
 refine WD.a 0 (some 7) (strA t0) h ?_
 refine WD.a 0 (some 8) (.int .i64 t6) h ?_
 obtain ⟨t9, e5, hF⟩ := obind_some hF
 refine WD.b 0 (some 9) (strA t9) h (slice_str (P := Try.prog) (h := h) (t := 9) (A := (some (.int .i64 t6))) (B := none) (by kernel_rfl) (.inl ⟨_, rfl⟩) (.inr ⟨rfl, rfl⟩) e5) ?_
 refine WD.a 0 (some 12) (strA t0) h ?_
 refine WD.a 0 (some 13) (.int .i64 t6) h ?_
 obtain ⟨t14, e6, hF⟩ := obind_some hF
 refine WD.b 0 (some 14) (strA t14) h (slice_str (P := Try.prog) (h := h) (t := 9) (A := none) (B := (some (.int .i64 t6))) (by kernel_rfl) (.inr ⟨rfl, rfl⟩) (.inl ⟨_, rfl⟩) e6) ?_
 obtain ⟨r10, h_7, e8, hF⟩ := callN_some hF
 refine WD.call (d := (some 10)) (by kernel_rfl) (by kernel_rfl) (by kernel_rfl) e8 (k := 2) (by kernel_rfl) (fun _ => (by kernel_rfl)) (by decide) ?_
 replace hF := callN_some hF; obtain ⟨r11, h_9, e10, hF⟩ := hF
 replace hF := obind_some hF; obtain ⟨t11, c11, hF⟩ := hF
 have c11 := avInt_some c11
 subst c11
 refine WD.call (d := (some 11)) (by kernel_rfl) (by kernel_rfl) (by kernel_rfl) e10 (k := 2) (by kernel_rfl) (fun _ => (by kernel_rfl)) (by decide) ?_
 replace hF := callN_some hF; obtain ⟨r15, h_12, e13, hF⟩ := hF
 replace hF := obind_some hF; obtain ⟨t15, c14, hF⟩ := hF
 have c14 := avInt_some c14
 subst c14
 refine WD.call (d := (some 15)) (by kernel_rfl) (by kernel_rfl) (by kernel_rfl) e13 (k := 2) (by kernel_rfl) (fun _ => (by kernel_rfl)) (by decide) ?_
 obtain ⟨t16, e15, hF⟩ := lett_some hF
 refine WD.val (d := (some 16)) (v := .bool t16) (h' := h_12) (by kernel_rfl) (by kernel_rfl) (val_of AV.bool e15 (by kernel_rfl)) (k := 0) (by kernel_rfl) (fun e => absurd e (by decide)) (by decide) ?_
 refine WD.a 0 (some 2) (.bool t16) h_12 ?_
 refine WD.nil ?_
 refine gW [(2, .bool t16)] (n4 (oY ?_))
 exact lZ hF [.tmp 2] [.bool t16] (rT res_nil)
noncomputable def frame_Put (call : CallF) (_ : Nat) (t0 : Bytes) (h : AHeap) : R :=
 lett (decide ((lenS t0) > 4096)) fun (t6 : Bool) =>
 ifB t6
 (
  some (.ret (.tup [strA ([] : Bytes), .int .i64 3]), h))
 (
  lett (IntKind.u32.wrap (lenS t0)) fun (t9 : Int) =>
  callN (call 75 [.int .u32 t9] h) fun r10 h_8 =>
  obind (avStr r10) fun t10 =>
  callN (call 74 [strA t10] h_8) fun r11 h_11 =>
  obind (avStr r11) fun t11 =>
  callN (call 74 [strA t0] h_11) fun r13 h_14 =>
  obind (avStr r13) fun t13 =>
  obind (addS t11 t13) fun t14 =>
  some (.ret (.tup [strA t14, .int .i64 0]), h_14))
set_option maxHeartbeats 4000000 in
set_option maxRecDepth 20000 in
theorem frame_Put_ok {call : CallF} (hc : SaysAll Try.prog call) {n : Nat} {t0 : Bytes} {h : AHeap} {rR : ARes} {hR : AHeap} (hF : frame_Put call n t0 h = some (rR, hR)) : Says Try.prog 57 [strA t0] h rR hR := by
 unfold frame_Put at hF
 refine sO Try.func57 fun w0 m0 => ?_
 refine wW [(0, strA t0)] ?_
 refine oG fun n1 => W.r ?_
 refine oA 2 (strA ([] : Bytes)) ?_
 refine oA 3 (.int .i64 0) ?_
 refine oV [(0, strA t0)] (n1 ?_)
 refine oH fun n2 q2 => ?_
 refine oG fun n3 => W.r ?_
 refine oA 4 (strA t0) ?_
 refine oA 5 (.int .i64 (lenS t0)) ?_
 refine oB 6 hF fun t6 hF => ?_
 refine oV [(0, strA t0), (6, .bool t6)] (n3 ?_)
 cases t6 with
 | true =>
  refine oT hF fun hF => ?_
  refine oG fun n5 => W.r ?_
  refine oA 2 (strA ([] : Bytes)) ?_
  refine oA 3 (.int .i64 3) ?_
  refine oV [(2, strA ([] : Bytes)), (3, .int .i64 3)] (n5 (oY (q2 ?_)))
  exact lZ hF [.tmp 2, .tmp 3] [strA ([] : Bytes), .int .i64 3] (rT (rT res_nil))
 | false =>
  refine oU hF fun hF => ?_
  refine oZ (n2 ?_)
  refine oG fun n6 => W.r ?_
  refine oA 7 (strA t0) ?_
  refine oA 8 (.int .i64 (lenS t0)) ?_
  refine oI 9 .u32 hF fun t9 hF => ?_
  refine oCs hc 10 hF fun t10 h_8 hF => ?_
  refine oCs hc 11 hF fun t11 h_11 hF => ?_
  refine oA 12 (strA t0) ?_
  refine oCs hc 13 hF fun t13 h_14 hF => ?_
  obtain ⟨t14, e17, hF⟩ := obind_some hF
  refine WL.b (some 14) (strA t14) h_14 (add_str (P := Try.prog) (h := h_14) (t := 9) (lit := false) e17) ?_
  refine oA 2 (strA t14) ?_
  refine oA 3 (.int .i64 0) ?_
  refine oV [(2, strA t14), (3, .int .i64 0)] (n6 (oY ?_))
  exact lZ hF [.tmp 2, .tmp 3] [strA t14, .int .i64 0] (rT (rT res_nil))
noncomputable def frame_Take (call : CallF) (_ : Nat) (t0 : Bytes) (h : AHeap) : R :=
 lett (decide ((lenS t0) < 8)) fun (t9 : Bool) =>
 ifB t9
 (
  some (.ret (.tup [strA ([] : Bytes), .int .i64 0, .int .i64 30]), h))
 (
  callN (call 70 [strA t0] h) fun r11 h_7 =>
  callN (call 79 [r11] h_7) fun r12 h_9 =>
  obind (avInt .u32 r12) fun t12 =>
  lett (decide (t12 > 4096)) fun (t14 : Bool) =>
  lett (fun (t20 : Bool) (h_15 : AHeap) =>
   ifB t20
   (
    some (.ret (.tup [strA ([] : Bytes), .int .i64 0, .int .i64 7]), h_15))
   (
    lett (IntKind.i64.wrap t12) fun (t22 : Int) =>
    lett (IntKind.i64.wrap (8 + t22)) fun (t23 : Int) =>
    lett (IntKind.i64.wrap (t23 + 4)) fun (t24 : Int) =>
    lett (decide ((lenS t0) < t24)) fun (t28 : Bool) =>
    ifB t28
    (
     some (.ret (.tup [strA ([] : Bytes), .int .i64 0, .int .i64 30]), h_15))
    (
     obind (sliceS t0 8 t24) fun t31 =>
     callN (call 80 [strA t31] h_15) fun r32 h_30 =>
     obind (avBool r32) fun t32 =>
     lett (!t32) fun (t33 : Bool) =>
     ifB t33
     (
      some (.ret (.tup [strA ([] : Bytes), .int .i64 0, .int .i64 7]), h_30))
     (
      lett (IntKind.i64.wrap (t24 - 4)) fun (t36 : Int) =>
      obind (sliceS t0 8 t36) fun t37 =>
      some (.ret (.tup [strA t37, .int .i64 t24, .int .i64 0]), h_30))))) fun j20 =>
  ifB t14
  (
   j20 true h_9)
  (
   obind (sliceS t0 0 8) fun t17 =>
   callN (call 80 [strA t17] h_9) fun r18 h_39 =>
   obind (avBool r18) fun t18 =>
   lett (!t18) fun (t19 : Bool) =>
   j20 t19 h_39))
set_option maxHeartbeats 4000000 in
set_option maxRecDepth 20000 in
theorem frame_Take_ok {call : CallF} (hc : SaysAll Try.prog call) {n : Nat} {t0 : Bytes} {h : AHeap} {rR : ARes} {hR : AHeap} (hF : frame_Take call n t0 h = some (rR, hR)) : Says Try.prog 69 [strA t0] h rR hR := by
 unfold frame_Take at hF
 refine sO Try.func69 fun w0 m0 => ?_
 refine wW [(0, strA t0)] ?_
 refine oG fun n1 => W.r ?_
 refine oA 2 (strA ([] : Bytes)) ?_
 refine oA 3 (.int .i64 0) ?_
 refine oA 4 (.int .i64 0) ?_
 refine oV [(0, strA t0)] (n1 ?_)
 refine oH fun n2 q2 => ?_
 refine oG fun n3 => W.r ?_
 refine oA 7 (strA t0) ?_
 refine oA 8 (.int .i64 (lenS t0)) ?_
 refine oB 9 hF fun t9 hF => ?_
 refine oV [(0, strA t0), (9, .bool t9)] (n3 ?_)
 cases t9 with
 | true =>
  refine oT hF fun hF => ?_
  refine oG fun n5 => W.r ?_
  refine oA 2 (strA ([] : Bytes)) ?_
  refine oA 3 (.int .i64 0) ?_
  refine oA 4 (.int .i64 30) ?_
  refine oV [(2, strA ([] : Bytes)), (3, .int .i64 0), (4, .int .i64 30)] (n5 (oY (q2 ?_)))
  exact lZ hF [.tmp 2, .tmp 3, .tmp 4] [strA ([] : Bytes), .int .i64 0, .int .i64 30] (rT (rT (rT res_nil)))
 | false =>
  refine oU hF fun hF => ?_
  refine oZ (n2 ?_)
  refine oG fun n6 => W.r ?_
  refine oA 10 (strA t0) ?_
  refine oC hc (some 11) hF fun r11 h_7 hF => ?_
  refine oCi hc 12 hF fun t12 h_9 hF => ?_
  refine oA 5 (.int .u32 t12) ?_
  refine oV [(0, strA t0), (5, .int .u32 t12)] (n6 ?_)
  refine oH fun n12 q12 => ?_
  refine W.s (fun K13 n13 e13 q13 p13 => ?_)
  refine W.r ?_
  refine oA 13 (.int .u32 t12) ?_
  refine oB 14 hF fun t14 hF => ?_
  refine oA 15 (.bool t14) ?_
  obtain ⟨j20, e16, hF⟩ := lett_some hF
  have J17 : ∀ (t20 : Bool) (h_15 : AHeap), j20 t20 h_15 = some (rR, hR) → WL Try.prog w0 m0 (Func.ntmps Try.f69) (Code.ops (Code.p1 (Code.p1 (Code.p2 (Code.p2 (Code.p2 (codeOf Try.f69))))))) 8 K13 [(0, strA t0), (5, .int .u32 t12), (20, .bool t20)] [] h_15 := by
   intro t20 h_15 hF
   rw [e16] at hF
   refine oV [(0, strA t0), (5, .int .u32 t12), (20, .bool t20)] (n13 ?_)
   cases t20 with
   | true =>
    refine oT hF fun hF => ?_
    refine oG fun n18 => W.r ?_
    refine oA 2 (strA ([] : Bytes)) ?_
    refine oA 3 (.int .i64 0) ?_
    refine oA 4 (.int .i64 7) ?_
    refine oV [(2, strA ([] : Bytes)), (3, .int .i64 0), (4, .int .i64 7)] (n18 (oY (q12 ?_)))
    exact lZ hF [.tmp 2, .tmp 3, .tmp 4] [strA ([] : Bytes), .int .i64 0, .int .i64 7] (rT (rT (rT res_nil)))
   | false =>
    refine oU hF fun hF => ?_
    refine oZ (n12 ?_)
    refine oG fun n19 => W.r ?_
    refine oA 21 (.int .u32 t12) ?_
    refine oI 22 .i64 hF fun t22 hF => ?_
    refine oI 23 .i64 hF fun t23 hF => ?_
    refine oI 24 .i64 hF fun t24 hF => ?_
    refine oA 6 (.int .i64 t24) ?_
    refine oV [(0, strA t0), (6, .int .i64 t24)] (n19 ?_)
    refine oH fun n23 q23 => ?_
    refine oG fun n24 => W.r ?_
    refine oA 25 (strA t0) ?_
    refine oA 26 (.int .i64 (lenS t0)) ?_
    refine oA 27 (.int .i64 t24) ?_
    refine oB 28 hF fun t28 hF => ?_
    refine oV [(0, strA t0), (6, .int .i64 t24), (28, .bool t28)] (n24 ?_)
    cases t28 with
    | true =>
     refine oT hF fun hF => ?_
     refine oG fun n26 => W.r ?_
     refine oA 2 (strA ([] : Bytes)) ?_
     refine oA 3 (.int .i64 0) ?_
     refine oA 4 (.int .i64 30) ?_
     refine oV [(2, strA ([] : Bytes)), (3, .int .i64 0), (4, .int .i64 30)] (n26 (oY (q23 ?_)))
     exact lZ hF [.tmp 2, .tmp 3, .tmp 4] [strA ([] : Bytes), .int .i64 0, .int .i64 30] (rT (rT (rT res_nil)))
    | false =>
     refine oU hF fun hF => ?_
     refine oZ (n23 ?_)
     refine oH fun n27 q27 => ?_
     refine oG fun n28 => W.r ?_
     refine oA 29 (strA t0) ?_
     refine oA 30 (.int .i64 t24) ?_
     obtain ⟨t31, e29, hF⟩ := obind_some hF
     refine WL.b (some 31) (strA t31) h_15 (slice_str (P := Try.prog) (h := h_15) (t := 9) (A := (some (.int .i64 8))) (B := (some (.int .i64 t24))) (by kernel_rfl) (.inl ⟨_, rfl⟩) (.inl ⟨_, rfl⟩) e29) ?_
     refine oCb hc 32 hF fun t32 h_30 hF => ?_
     refine oB 33 hF fun t33 hF => ?_
     refine oV [(0, strA t0), (6, .int .i64 t24), (33, .bool t33)] (n28 ?_)
     cases t33 with
     | true =>
      refine oT hF fun hF => ?_
      refine oG fun n34 => W.r ?_
      refine oA 2 (strA ([] : Bytes)) ?_
      refine oA 3 (.int .i64 0) ?_
      refine oA 4 (.int .i64 7) ?_
      refine oV [(2, strA ([] : Bytes)), (3, .int .i64 0), (4, .int .i64 7)] (n34 (oY (q27 ?_)))
      exact lZ hF [.tmp 2, .tmp 3, .tmp 4] [strA ([] : Bytes), .int .i64 0, .int .i64 7] (rT (rT (rT res_nil)))
     | false =>
      refine oU hF fun hF => ?_
      refine oZ (n27 ?_)
      refine oG fun n35 => W.r ?_
      refine oA 34 (strA t0) ?_
      refine oA 35 (.int .i64 t24) ?_
      refine oI 36 .i64 hF fun t36 hF => ?_
      obtain ⟨t37, e37, hF⟩ := obind_some hF
      refine WL.b (some 37) (strA t37) h_30 (slice_str (P := Try.prog) (h := h_30) (t := 9) (A := (some (.int .i64 8))) (B := (some (.int .i64 t36))) (by kernel_rfl) (.inl ⟨_, rfl⟩) (.inl ⟨_, rfl⟩) e37) ?_
      refine oA 38 (.int .i64 t24) ?_
      refine oA 2 (strA t37) ?_
      refine oA 3 (.int .i64 t24) ?_
      refine oA 4 (.int .i64 0) ?_
      refine oV [(2, strA t37), (3, .int .i64 t24), (4, .int .i64 0)] (n35 (oY ?_))
      exact lZ hF [.tmp 2, .tmp 3, .tmp 4] [strA t37, .int .i64 t24, .int .i64 0] (rT (rT (rT res_nil)))
  cases t14 with
  | true =>
   replace hF := ifB_t hF
   refine WL.o (some 16) ?_
   refine WL.o (some 17) ?_
   refine WL.o (some 18) ?_
   refine WL.o (some 19) ?_
   refine oA 20 (.bool true) ?_
   exact lW _ (J17 _ _ hF)
  | false =>
   replace hF := ifB_f hF
   refine oA 16 (strA t0) ?_
   obtain ⟨t17, e38, hF⟩ := obind_some hF
   refine WL.b (some 17) (strA t17) h_9 (slice_str (P := Try.prog) (h := h_9) (t := 9) (A := none) (B := (some (.int .i64 8))) (by kernel_rfl) (.inr ⟨rfl, rfl⟩) (.inl ⟨_, rfl⟩) e38) ?_
   refine oCb hc 18 hF fun t18 h_39 hF => ?_
   refine oB 19 hF fun t19 hF => ?_
   refine oA 20 (.bool t19) ?_
   exact lW _ (J17 _ _ hF)
noncomputable def frame_All (_ : CallF) (_ : Nat) (t0 : Bytes) (h : AHeap) : R :=
 lett (newH h 9 [strA t0]) fun h_2 =>
 some (.ret (AV.fn 68 [] [(newP h)]), h_2)
set_option maxHeartbeats 4000000 in
set_option maxRecDepth 20000 in
theorem frame_All_ok {call : CallF} (_ : SaysAll Try.prog call) {n : Nat} {t0 : Bytes} {h : AHeap} {rR : ARes} {hR : AHeap} (hF : frame_All call n t0 h = some (rR, hR)) : Says Try.prog 53 [strA t0] h rR hR := by
 unfold frame_All at hF
 refine sO Try.func53 fun w0 m0 => ?_
 refine wW [(0, strA t0)] ?_
 refine oG fun n1 => W.r ?_
 refine oN 1 hF fun h_2 hF => ?_
 refine oA 2 AV.nfn ?_
 refine oV [(1, (newP h))] (n1 ?_)
 refine oG fun n4 => W.r ?_
 refine oA 3 (AV.fn 68 [] [(newP h)]) ?_
 refine oA 2 (AV.fn 68 [] [(newP h)]) ?_
 refine oV [(2, (AV.fn 68 [] [(newP h)]))] (n4 (oY ?_))
 exact lZ hF [.tmp 2] [(AV.fn 68 [] [(newP h)])] (rT res_nil)
noncomputable def wire_U32 (call : CallF) (_ : Nat) (t0 : Int) (h : AHeap) : R :=
 lett (IntKind.u64.wrap t0) fun (t4 : Int) =>
 callN (call 76 [.int .u64 t4, .int .i64 4] h) fun r5 h_4 =>
 obind (avStr r5) fun t5 =>
 some (.ret (strA t5), h_4)
set_option maxHeartbeats 4000000 in
set_option maxRecDepth 20000 in
theorem wire_U32_ok {call : CallF} (hc : SaysAll Try.prog call) {n : Nat} {t0 : Int} {h : AHeap} {rR : ARes} {hR : AHeap} (hF : wire_U32 call n t0 h = some (rR, hR)) : Says Try.prog 75 [.int .u32 t0] h rR hR := by
 unfold wire_U32 at hF
 refine sO Try.func75 fun w0 m0 => ?_
 refine wW [(0, .int .u32 t0)] ?_
 refine oG fun n1 => W.r ?_
 refine oA 2 (strA ([] : Bytes)) ?_
 refine oV [(0, .int .u32 t0)] (n1 ?_)
 refine oG fun n2 => W.r ?_
 refine oA 3 (.int .u32 t0) ?_
 refine oI 4 .u64 hF fun t4 hF => ?_
 refine oCs hc 5 hF fun t5 h_4 hF => ?_
 refine oA 2 (strA t5) ?_
 refine oV [(2, strA t5)] (n2 (oY ?_))
 exact lZ hF [.tmp 2] [strA t5] (rT res_nil)
noncomputable def wire_U64 (call : CallF) (_ : Nat) (t0 : Int) (h : AHeap) : R :=
 callN (call 76 [.int .u64 t0, .int .i64 8] h) fun r4 h_3 =>
 obind (avStr r4) fun t4 =>
 some (.ret (strA t4), h_3)
set_option maxHeartbeats 4000000 in
set_option maxRecDepth 20000 in
theorem wire_U64_ok {call : CallF} (hc : SaysAll Try.prog call) {n : Nat} {t0 : Int} {h : AHeap} {rR : ARes} {hR : AHeap} (hF : wire_U64 call n t0 h = some (rR, hR)) : Says Try.prog 58 [.int .u64 t0] h rR hR := by
 unfold wire_U64 at hF
 refine sO Try.func58 fun w0 m0 => ?_
 refine wW [(0, .int .u64 t0)] ?_
 refine oG fun n1 => W.r ?_
 refine oA 2 (strA ([] : Bytes)) ?_
 refine oV [(0, .int .u64 t0)] (n1 ?_)
 refine oG fun n2 => W.r ?_
 refine oA 3 (.int .u64 t0) ?_
 refine oCs hc 4 hF fun t4 h_3 hF => ?_
 refine oA 2 (strA t4) ?_
 refine oV [(2, strA t4)] (n2 (oY ?_))
 exact lZ hF [.tmp 2] [strA t4] (rT res_nil)
noncomputable def wire_U8 (call : CallF) (_ : Nat) (t0 : Int) (h : AHeap) : R :=
 lett (IntKind.u64.wrap t0) fun (t4 : Int) =>
 callN (call 76 [.int .u64 t4, .int .i64 1] h) fun r5 h_4 =>
 obind (avStr r5) fun t5 =>
 some (.ret (strA t5), h_4)
set_option maxHeartbeats 4000000 in
set_option maxRecDepth 20000 in
theorem wire_U8_ok {call : CallF} (hc : SaysAll Try.prog call) {n : Nat} {t0 : Int} {h : AHeap} {rR : ARes} {hR : AHeap} (hF : wire_U8 call n t0 h = some (rR, hR)) : Says Try.prog 59 [.int .u8 t0] h rR hR := by
 unfold wire_U8 at hF
 refine sO Try.func59 fun w0 m0 => ?_
 refine wW [(0, .int .u8 t0)] ?_
 refine oG fun n1 => W.r ?_
 refine oA 2 (strA ([] : Bytes)) ?_
 refine oV [(0, .int .u8 t0)] (n1 ?_)
 refine oG fun n2 => W.r ?_
 refine oA 3 (.int .u8 t0) ?_
 refine oI 4 .u64 hF fun t4 hF => ?_
 refine oCs hc 5 hF fun t5 h_4 hF => ?_
 refine oA 2 (strA t5) ?_
 refine oV [(2, strA t5)] (n2 (oY ?_))
 exact lZ hF [.tmp 2] [strA t5] (rT res_nil)
noncomputable def wire_New (_ : CallF) (_ : Nat) (t0 : Bytes) (h : AHeap) : R :=
 outK (opBox h 154 (some (.agg ([strA t0, .int .i64 0, .int .i64 0, .int .i64 0] : List AV)))) fun v5 h_3 =>
 some (.ret (v5), h_3)
set_option maxHeartbeats 4000000 in
set_option maxRecDepth 20000 in
theorem wire_New_ok {call : CallF} (_ : SaysAll Try.prog call) {n : Nat} {t0 : Bytes} {h : AHeap} {rR : ARes} {hR : AHeap} (hF : wire_New call n t0 h = some (rR, hR)) : Says Try.prog 70 [strA t0] h rR hR := by
 unfold wire_New at hF
 refine sO Try.func70 fun w0 m0 => ?_
 refine wW [(0, strA t0)] ?_
 refine oG fun n1 => W.r ?_
 refine oA 2 AV.nilp ?_
 refine oV [(0, strA t0)] (n1 ?_)
 refine oG fun n2 => W.r ?_
 refine oA 3 (strA t0) ?_
 refine oA 4 (.agg ([strA t0, .int .i64 0, .int .i64 0, .int .i64 0] : List AV)) ?_
 refine oK 5 hF fun v5 h_3 hF => ?_
 refine oA 2 v5 ?_
 refine oV [(2, v5)] (n2 (oY ?_))
 exact lZ hF [.tmp 2] [v5] (rT res_nil)
noncomputable def wire_number_L0b (v8 : AV) (k9 : AHeap → R) (self : Int → Int → AHeap → R) (t0_16 : Int) (t6 : Int) (h_17 : AHeap) : R :=
 lett (decide (t6 ≥ 0)) fun (t12 : Bool) =>
 ifB t12
 (
  lett (IntKind.u8.wrap t0_16) fun (t18 : Int) =>
  obind (idxP 1 v8 t6) fun t19 =>
  obind (stRow h_17 1 [.int .u8 t18] t19) fun h_26 =>
  obind (shrI .u64 t0_16 8) fun t21 =>
  lett (IntKind.i64.wrap (t6 - 1)) fun (t14 : Int) =>
  self t21 t14 h_26)
 (
  k9 h_17)
noncomputable def wire_number_L0 (v8 : AV) (k9 : AHeap → R) : Nat → Int → Int → AHeap → R := iterR (fun _ _ _ => none) (wire_number_L0b v8 k9)
theorem wire_number_L0_s (v8 : AV) (k9 : AHeap → R) (m : Nat) : wire_number_L0 v8 k9 (m + 1) = wire_number_L0b v8 k9 (wire_number_L0 v8 k9 m) := rfl
noncomputable def wire_number (_ : CallF) (n : Nat) (t0 : Int) (t1 : Int) (h : AHeap) : R :=
 outK (opMakeSlice Try.prog h 74 (some (.int .i64 t1)) (some (.int .i64 t1))) fun v8 h_3 =>
 lett (IntKind.i64.wrap (t1 - 1)) fun (t10 : Int) =>
 lett (fun  (h_10 : AHeap) =>
  outK (opConv Try.prog h_10 74 9 (some v8)) fun v23 h_12 =>
  obind (avStr v23) fun t23 =>
  some (.ret (strA t23), h_12)) fun k9 =>
 wire_number_L0 v8 k9 n t0 t10 h_3
set_option maxHeartbeats 4000000 in
set_option maxRecDepth 20000 in
theorem wire_number_ok {call : CallF} (_ : SaysAll Try.prog call) {n : Nat} {t0 : Int} {t1 : Int} {h : AHeap} {rR : ARes} {hR : AHeap} (hF : wire_number call n t0 t1 h = some (rR, hR)) : Says Try.prog 76 [.int .u64 t0, .int .i64 t1] h rR hR := by
 unfold wire_number at hF
 refine sO Try.func76 fun w0 m0 => ?_
 refine wW [(0, .int .u64 t0), (1, .int .i64 t1)] ?_
 refine oG fun n1 => W.r ?_
 refine oA 4 (strA ([] : Bytes)) ?_
 refine oV [(0, .int .u64 t0), (1, .int .i64 t1)] (n1 ?_)
 refine oG fun n2 => W.r ?_
 refine oA 7 (.int .i64 t1) ?_
 refine oK 8 hF fun v8 h_3 hF => ?_
 refine oA 5 v8 ?_
 refine oV [(0, .int .u64 t0), (1, .int .i64 t1), (5, v8)] (n2 ?_)
 refine W.s (fun K5 n5 e5 q5 p5 => ?_)
 refine oG fun n6 => W.r ?_
 refine oA 9 (.int .i64 t1) ?_
 refine oI 10 .i64 hF fun t10 hF => ?_
 refine oA 6 (.int .i64 t10) ?_
 refine oV [(0, .int .u64 t0), (5, v8), (6, .int .i64 t10)] (n6 ?_)
 obtain ⟨k9, e9, hF⟩ := lett_some hF
 have J9 : ∀  (h_10 : AHeap), k9 h_10 = some (rR, hR) → Go w0 m0 (Func.ntmps Try.f76) (K5 .normal) [(5, v8)] [] h_10 := by
  intro  h_10 hF
  rw [e9] at hF
  refine n5 ?_
  refine oG fun n11 => W.r ?_
  refine oA 22 v8 ?_
  replace hF := outK_some hF; obtain ⟨v23, h_12, e13, hF⟩ := hF
  replace hF := obind_some hF; obtain ⟨t23, c14, hF⟩ := hF
  have c14 := avStr_some c14
  subst c14
  refine WL.b (some 23) (strA t23) h_12 e13 ?_
  refine oA 4 (strA t23) ?_
  refine oV [(4, strA t23)] (n11 (oY ?_))
  exact lZ hF [.tmp 4] [strA t23] (rT res_nil)
 refine W.blockK (by kernel_rfl) (fun K8 n8 s8 o8 q8 p8 => ?_)
 refine W.loopK (by kernel_rfl) (fun I15 K15 b15 n15 e15 q15 p15 => ?_)
 have L15 : ∀ (m : Nat) (t0_16 : Int) (t6 : Int) (h_17 : AHeap), wire_number_L0 v8 k9 m t0_16 t6 h_17 = some (rR, hR) → Go w0 m0 (Func.ntmps Try.f76) I15 [(0, .int .u64 t0_16), (5, v8), (6, .int .i64 t6)] [] h_17 := by
  intro m
  induction m with
  | zero => intro t0_16 t6 h_17 hF; cases hF
  | succ m ih15 =>
   intro t0_16 t6 h_17 hF
   rw [wire_number_L0_s] at hF; unfold wire_number_L0b at hF
   refine b15 ?_
   refine W.s (fun K18 n18 e18 q18 p18 => ?_)
   refine oG fun n19 => W.r ?_
   refine oA 11 (.int .i64 t6) ?_
   refine oB 12 hF fun t12 hF => ?_
   refine oV [(0, .int .u64 t0_16), (5, v8), (6, .int .i64 t6), (12, .bool t12)] (n19 ?_)
   cases t12 with
   | true =>
    refine oT hF fun hF => ?_
    refine oZ (n18 ?_)
    refine oG fun n21 => ?_
    refine W.blockK (by kernel_rfl) (fun K22 n22 s22 o22 q22 p22 => ?_)
    refine oG fun n23 => W.r ?_
    refine oA 15 v8 ?_
    refine oA 16 (.int .i64 t6) ?_
    refine oA 17 (.int .u64 t0_16) ?_
    refine oI 18 .u8 hF fun t18 hF => ?_
    refine oP 19 74 5 .i64 hF fun t19 hF => ?_
    refine oW 5 (.int .u8 t18) hF fun h_26 hF => ?_
    refine oV [(0, .int .u64 t0_16), (5, v8), (6, .int .i64 t6)] (n23 (W.r ?_))
    refine oA 20 (.int .u64 t0_16) ?_
    obtain ⟨t21, e28, hF⟩ := obind_some hF
    refine WL.b (some 21) (.int .u64 t21) h_26 (shr_int (P := Try.prog) (h := h_26) (t := 64) (k' := .u64) (lit := true) e28) ?_
    refine oA 0 (.int .u64 t21) ?_
    refine oV [(0, .int .u64 t21), (5, v8), (6, .int .i64 t6)] (n22 (n21 (W.r ?_)))
    refine oA 13 (.int .i64 t6) ?_
    refine oI 14 .i64 hF fun t14 hF => ?_
    refine oA 6 (.int .i64 t14) ?_
    refine oV [(0, .int .u64 t21), (5, v8), (6, .int .i64 t14)] (n15 ?_)
    exact gW _ (ih15 _ _ _ hF)
   | false =>
    refine oU hF fun hF => ?_
    refine W.exit (by kernel_rfl) ?_
    refine e18 (e15 ?_)
    refine s8 (by kernel_rfl) ?_
    exact gW _ (J9 _ hF)
 exact gW _ (L15 _ _ _ _ hF)
noncomputable def wire_Reader_U32 (call : CallF) (_ : Nat) (t0 : AV) (h : AHeap) : R :=
 callN (call 81 [t0, .int .i64 4] h) fun r4 h_3 =>
 obind (avInt .u64 r4) fun t4 =>
 lett (IntKind.u32.wrap t4) fun (t5 : Int) =>
 some (.ret (.int .u32 t5), h_3)
set_option maxHeartbeats 4000000 in
set_option maxRecDepth 20000 in
theorem wire_Reader_U32_ok {call : CallF} (hc : SaysAll Try.prog call) {n : Nat} {t0 : AV} {h : AHeap} {rR : ARes} {hR : AHeap} (hF : wire_Reader_U32 call n t0 h = some (rR, hR)) : Says Try.prog 79 [t0] h rR hR := by
 unfold wire_Reader_U32 at hF
 refine sO Try.func79 fun w0 m0 => ?_
 refine wW [(0, t0)] ?_
 refine oG fun n1 => W.r ?_
 refine oA 2 (.int .u32 0) ?_
 refine oV [(0, t0)] (n1 ?_)
 refine oG fun n2 => W.r ?_
 refine oA 3 t0 ?_
 refine oCi hc 4 hF fun t4 h_3 hF => ?_
 refine oI 5 .u32 hF fun t5 hF => ?_
 refine oA 2 (.int .u32 t5) ?_
 refine oV [(2, .int .u32 t5)] (n2 (oY ?_))
 exact lZ hF [.tmp 2] [.int .u32 t5] (rT res_nil)
noncomputable def wire_Reader_U64 (call : CallF) (_ : Nat) (t0 : AV) (h : AHeap) : R :=
 callN (call 81 [t0, .int .i64 8] h) fun r4 h_3 =>
 obind (avInt .u64 r4) fun t4 =>
 some (.ret (.int .u64 t4), h_3)
set_option maxHeartbeats 4000000 in
set_option maxRecDepth 20000 in
theorem wire_Reader_U64_ok {call : CallF} (hc : SaysAll Try.prog call) {n : Nat} {t0 : AV} {h : AHeap} {rR : ARes} {hR : AHeap} (hF : wire_Reader_U64 call n t0 h = some (rR, hR)) : Says Try.prog 71 [t0] h rR hR := by
 unfold wire_Reader_U64 at hF
 refine sO Try.func71 fun w0 m0 => ?_
 refine wW [(0, t0)] ?_
 refine oG fun n1 => W.r ?_
 refine oA 2 (.int .u64 0) ?_
 refine oV [(0, t0)] (n1 ?_)
 refine oG fun n2 => W.r ?_
 refine oA 3 t0 ?_
 refine oCi hc 4 hF fun t4 h_3 hF => ?_
 refine oA 2 (.int .u64 t4) ?_
 refine oV [(2, .int .u64 t4)] (n2 (oY ?_))
 exact lZ hF [.tmp 2] [.int .u64 t4] (rT res_nil)
noncomputable def wire_Reader_U8 (call : CallF) (_ : Nat) (t0 : AV) (h : AHeap) : R :=
 callN (call 81 [t0, .int .i64 1] h) fun r4 h_3 =>
 obind (avInt .u64 r4) fun t4 =>
 lett (IntKind.u8.wrap t4) fun (t5 : Int) =>
 some (.ret (.int .u8 t5), h_3)
set_option maxHeartbeats 4000000 in
set_option maxRecDepth 20000 in
theorem wire_Reader_U8_ok {call : CallF} (hc : SaysAll Try.prog call) {n : Nat} {t0 : AV} {h : AHeap} {rR : ARes} {hR : AHeap} (hF : wire_Reader_U8 call n t0 h = some (rR, hR)) : Says Try.prog 72 [t0] h rR hR := by
 unfold wire_Reader_U8 at hF
 refine sO Try.func72 fun w0 m0 => ?_
 refine wW [(0, t0)] ?_
 refine oG fun n1 => W.r ?_
 refine oA 2 (.int .u8 0) ?_
 refine oV [(0, t0)] (n1 ?_)
 refine oG fun n2 => W.r ?_
 refine oA 3 t0 ?_
 refine oCi hc 4 hF fun t4 h_3 hF => ?_
 refine oI 5 .u8 hF fun t5 hF => ?_
 refine oA 2 (.int .u8 t5) ?_
 refine oV [(2, .int .u8 t5)] (n2 (oY ?_))
 exact lZ hF [.tmp 2] [.int .u8 t5] (rT res_nil)
noncomputable def wire_Reader_End (call : CallF) (_ : Nat) (t0 : AV) (h : AHeap) : R :=
 lett (newH h 145 [.int .i64 0, .int .i64 0]) fun h_2 =>
 lett (fun (t16 : Bool) (h_7 : AHeap) =>
  ifB t16
  (
   obind (nilC t0) fun t18 =>
   obind (fldP 1 t18) fun t19 =>
   obind (ldCell h_7 t19) fun v20 =>
   obind (avInt .i64 v20) fun t20 =>
   obind (stRow h_7 2 ([.int .i64 7, .int .i64 t20] : List AV) (newP h)) fun h_13 =>
   obind (ldRow h_13 2 (newP h)) fun w2 =>
   some (.ret (.agg w2), h_13))
  (
   callN (call 83 [t0] h_7) fun r23 h_17 =>
   obind (avAgg r23) fun t23 =>
   obind (stRow h_17 2 t23 (newP h)) fun h_20 =>
   obind (ldRow h_20 2 (newP h)) fun w2_23 =>
   some (.ret (.agg w2_23), h_20))) fun k6 =>
 callN (call 82 [t0] h_2) fun r4 h_24 =>
 obind (avBool r4) fun t4 =>
 ifB t4
 (
  obind (nilC t0) fun t7 =>
  obind (fldP 1 t7) fun t8 =>
  obind (ldCell h_24 t8) fun v9 =>
  obind (avInt .i64 v9) fun t9 =>
  obind (nilC t0) fun t11 =>
  obind (fldP 0 t11) fun t12 =>
  obind (ldCell h_24 t12) fun v13 =>
  obind (avStr v13) fun t13 =>
  lett (decide (t9 < (lenS t13))) fun (t15 : Bool) =>
  k6 t15 h_24)
 (
  k6 false h_24)
set_option maxHeartbeats 4000000 in
set_option maxRecDepth 20000 in
theorem wire_Reader_End_ok {call : CallF} (hc : SaysAll Try.prog call) {n : Nat} {t0 : AV} {h : AHeap} {rR : ARes} {hR : AHeap} (hF : wire_Reader_End call n t0 h = some (rR, hR)) : Says Try.prog 73 [t0] h rR hR := by
 unfold wire_Reader_End at hF
 refine sO Try.func73 fun w0 m0 => ?_
 refine wW [(0, t0)] ?_
 refine oG fun n1 => W.r ?_
 refine oN 2 hF fun h_2 hF => ?_
 refine oV [(0, t0), (2, (newP h))] (n1 ?_)
 refine oH fun n4 q4 => ?_
 refine W.s (fun K5 n5 e5 q5 p5 => ?_)
 obtain ⟨k6, e6, hF⟩ := lett_some hF
 have J6 : ∀ (t16 : Bool) (h_7 : AHeap), k6 t16 h_7 = some (rR, hR) → Go w0 m0 (Func.ntmps Try.f73) (K5 .normal) [(0, t0), (2, (newP h)), (16, .bool t16)] [] h_7 := by
  intro t16 h_7 hF
  rw [e6] at hF
  refine n5 ?_
  cases t16 with
  | true =>
   refine oT hF fun hF => ?_
   refine oG fun n8 => W.r ?_
   refine oA 17 t0 ?_
   refine oC0 18 hF fun t18 hF => ?_
   refine oF 19 154 1 hF fun t19 hF => ?_
   refine oLi 20 3 hF fun t20 hF => ?_
   refine oA 21 (.agg ([.int .i64 7, .int .i64 t20] : List AV)) ?_
   refine oW 145 (.agg ([.int .i64 7, .int .i64 t20] : List AV)) hF fun h_13 hF => ?_
   refine oV [(2, (newP h))] (n8 (oY (q4 ?_)))
   obtain ⟨w2, e15, hF⟩ := obind_some hF
   exact lZ hF [.cell 2 145] [.agg w2] (rY e15 res_nil)
  | false =>
   refine oU hF fun hF => ?_
   refine oZ (n4 ?_)
   refine oG fun n16 => W.r ?_
   refine oA 22 t0 ?_
   refine oCa hc 23 hF fun t23 h_17 hF => ?_
   refine oW 145 (.agg t23) hF fun h_20 hF => ?_
   refine oV [(2, (newP h))] (n16 (oY ?_))
   obtain ⟨w2_23, e22, hF⟩ := obind_some hF
   exact lZ hF [.cell 2 145] [.agg w2_23] (rY e22 res_nil)
 refine W.draw (by kernel_rfl) (hc.ok w0) (plan := [0, 1, 2, 3, 4, 5, 6, 7, 8, 9, 10, 11, 12, 13]) (by kernel_rfl) (by kernel_rfl) (by kernel_rfl) ?_
 refine WD.a 0 (some 3) t0 h_2 ?_
 replace hF := callN_some hF; obtain ⟨r4, h_24, e25, hF⟩ := hF
 replace hF := obind_some hF; obtain ⟨t4, c26, hF⟩ := hF
 have c26 := avBool_some c26
 subst c26
 refine WD.call (d := (some 4)) (by kernel_rfl) (by kernel_rfl) (by kernel_rfl) e25 (k := 2) (by kernel_rfl) (fun _ => (by kernel_rfl)) (by decide) ?_
 refine WD.a 0 (some 5) (.bool t4) h_24 ?_
 cases t4 with
 | true =>
  replace hF := ifB_t hF
  refine WD.a 0 (some 6) t0 h_24 ?_
  obtain ⟨t7, e27, hF⟩ := obind_some hF
  refine WD.b 0 (some 7) t7 h_24 (nil_chk (h := h_24) e27) ?_
  obtain ⟨t8, e28, hF⟩ := obind_some hF
  refine WD.b 0 (some 8) t8 h_24 (field_ptr (P := Try.prog) (h := h_24) (s := 154) (f := 1) (by kernel_rfl) e28) ?_
  replace hF := obind_some hF; obtain ⟨v9, e29, hF⟩ := hF
  replace hF := obind_some hF; obtain ⟨t9, c30, hF⟩ := hF
  have c30 := avInt_some c30
  subst c30
  refine WD.b 1 (some 9) (.int .i64 t9) h_24 (load_cell (P := Try.prog) (h := h_24) (t := 3) (by kernel_rfl) e29) ?_
  refine WD.a 0 (some 10) t0 h_24 ?_
  obtain ⟨t11, e31, hF⟩ := obind_some hF
  refine WD.b 0 (some 11) t11 h_24 (nil_chk (h := h_24) e31) ?_
  obtain ⟨t12, e32, hF⟩ := obind_some hF
  refine WD.b 0 (some 12) t12 h_24 (field_ptr (P := Try.prog) (h := h_24) (s := 154) (f := 0) (by kernel_rfl) e32) ?_
  replace hF := obind_some hF; obtain ⟨v13, e33, hF⟩ := hF
  replace hF := obind_some hF; obtain ⟨t13, c34, hF⟩ := hF
  have c34 := avStr_some c34
  subst c34
  refine WD.b 1 (some 13) (strA t13) h_24 (load_cell (P := Try.prog) (h := h_24) (t := 9) (by kernel_rfl) e33) ?_
  refine WD.a 0 (some 14) (.int .i64 (lenS t13)) h_24 ?_
  obtain ⟨t15, e35, hF⟩ := lett_some hF
  refine WD.val (d := (some 15)) (v := .bool t15) (h' := h_24) (by kernel_rfl) (by kernel_rfl) (val_of AV.bool e35 (by kernel_rfl)) (k := 0) (by kernel_rfl) (fun e => absurd e (by decide)) (by decide) ?_
  refine WD.a 0 (some 16) (.bool t15) h_24 ?_
  refine WD.nil ?_
  exact gW _ (J6 _ _ hF)
 | false =>
  replace hF := ifB_f hF
  refine oD 0 (some 6) ?_
  refine oD 0 (some 7) ?_
  refine oD 0 (some 8) ?_
  refine oD 1 (some 9) ?_
  refine oD 0 (some 10) ?_
  refine oD 0 (some 11) ?_
  refine oD 0 (some 12) ?_
  refine oD 1 (some 13) ?_
  refine oD 0 (some 14) ?_
  refine oD 0 (some 15) ?_
  refine WD.a 0 (some 16) (.bool false) h_24 ?_
  refine WD.nil ?_
  exact gW _ (J6 _ _ hF)
noncomputable def wire_Reader_Fault (_ : CallF) (_ : Nat) (t0 : AV) (h : AHeap) : R :=
 lett (newH h 145 [.int .i64 0, .int .i64 0]) fun h_2 =>
 outK (opBin Try.prog h_2 .eql 140 true (some t0) (some AV.nilp)) fun v4 h_6 =>
 obind (avBool v4) fun t4 =>
 ifB t4
 (
  obind (stRow h_6 2 ([.int .i64 1, .int .i64 0] : List AV) (newP h)) fun h_10 =>
  obind (ldRow h_10 2 (newP h)) fun w2 =>
  some (.ret (.agg w2), h_10))
 (
  obind (nilC t0) fun t7 =>
  obind (fldP 2 t7) fun t8 =>
  obind (ldRow h_6 2 t8) fun t9 =>
  obind (stRow h_6 2 t9 (newP h)) fun h_17 =>
  obind (ldRow h_17 2 (newP h)) fun w2_20 =>
  some (.ret (.agg w2_20), h_17))
set_option maxHeartbeats 4000000 in
set_option maxRecDepth 20000 in
theorem wire_Reader_Fault_ok {call : CallF} (_ : SaysAll Try.prog call) {n : Nat} {t0 : AV} {h : AHeap} {rR : ARes} {hR : AHeap} (hF : wire_Reader_Fault call n t0 h = some (rR, hR)) : Says Try.prog 83 [t0] h rR hR := by
 unfold wire_Reader_Fault at hF
 refine sO Try.func83 fun w0 m0 => ?_
 refine wW [(0, t0)] ?_
 refine oG fun n1 => W.r ?_
 refine oN 2 hF fun h_2 hF => ?_
 refine oV [(0, t0), (2, (newP h))] (n1 ?_)
 refine oH fun n4 q4 => ?_
 refine oG fun n5 => W.r ?_
 refine oA 3 t0 ?_
 replace hF := outK_some hF; obtain ⟨v4, h_6, e7, hF⟩ := hF
 replace hF := obind_some hF; obtain ⟨t4, c8, hF⟩ := hF
 have c8 := avBool_some c8
 subst c8
 refine WL.b (some 4) (.bool t4) h_6 e7 ?_
 refine oV [(0, t0), (2, (newP h)), (4, .bool t4)] (n5 ?_)
 cases t4 with
 | true =>
  refine oT hF fun hF => ?_
  refine oG fun n9 => W.r ?_
  refine oA 5 (.agg ([.int .i64 1, .int .i64 0] : List AV)) ?_
  refine oW 145 (.agg ([.int .i64 1, .int .i64 0] : List AV)) hF fun h_10 hF => ?_
  refine oV [(2, (newP h))] (n9 (oY (q4 ?_)))
  obtain ⟨w2, e12, hF⟩ := obind_some hF
  exact lZ hF [.cell 2 145] [.agg w2] (rY e12 res_nil)
 | false =>
  refine oU hF fun hF => ?_
  refine oZ (n4 ?_)
  refine oG fun n13 => W.r ?_
  refine oA 6 t0 ?_
  refine oC0 7 hF fun t7 hF => ?_
  refine oF 8 154 2 hF fun t8 hF => ?_
  refine oR 9 145 hF fun t9 hF => ?_
  refine oW 145 (.agg t9) hF fun h_17 hF => ?_
  refine oV [(2, (newP h))] (n13 (oY ?_))
  obtain ⟨w2_20, e19, hF⟩ := obind_some hF
  exact lZ hF [.cell 2 145] [.agg w2_20] (rY e19 res_nil)
noncomputable def wire_Reader_number_L0b (t0 : AV) (t1 : Int) (k33 : Int → AHeap → R) (self : Int → Int → AHeap → R) (t5_37 : Int) (t28 : Int) (h_38 : AHeap) : R :=
 lett (decide (t28 < t1)) fun (t29 : Bool) =>
 ifB t29
 (
  obind (shlI .u64 t5_37 8) fun t31 =>
  obind (nilC t0) fun t33 =>
  obind (fldP 0 t33) fun t34 =>
  obind (ldCell h_38 t34) fun v35 =>
  obind (avStr v35) fun t35 =>
  obind (nilC t0) fun t37 =>
  obind (fldP 1 t37) fun t38 =>
  obind (ldCell h_38 t38) fun v39 =>
  obind (avInt .i64 v39) fun t39 =>
  obind (idxS t35 t39) fun t40 =>
  lett (IntKind.u64.wrap t40) fun (t41 : Int) =>
  lett (orI .u64 t31 t41) fun (t42 : Int) =>
  obind (nilC t0) fun t44 =>
  obind (fldP 1 t44) fun t45 =>
  obind (ldCell h_38 t45) fun v46 =>
  obind (avInt .i64 v46) fun t46 =>
  lett (IntKind.i64.wrap (t46 + 1)) fun (t47 : Int) =>
  obind (nilC t0) fun t48 =>
  obind (fldP 1 t48) fun t49 =>
  obind (stRow h_38 1 [.int .i64 t47] t49) fun h_64 =>
  lett (IntKind.i64.wrap (t28 + 1)) fun (t50 : Int) =>
  self t42 t50 h_64)
 (
  k33 t5_37 h_38)
noncomputable def wire_Reader_number_L0 (t0 : AV) (t1 : Int) (k33 : Int → AHeap → R) : Nat → Int → Int → AHeap → R := iterR (fun _ _ _ => none) (wire_Reader_number_L0b t0 t1 k33)
theorem wire_Reader_number_L0_s (t0 : AV) (t1 : Int) (k33 : Int → AHeap → R) (m : Nat) : wire_Reader_number_L0 t0 t1 k33 (m + 1) = wire_Reader_number_L0b t0 t1 k33 (wire_Reader_number_L0 t0 t1 k33 m) := rfl
noncomputable def wire_Reader_number (call : CallF) (n : Nat) (t0 : AV) (t1 : Int) (h : AHeap) : R :=
 callN (call 82 [t0] h) fun r7 h_4 =>
 obind (avBool r7) fun t7 =>
 lett (!t7) fun (t8 : Bool) =>
 ifB t8
 (
  some (.ret (.int .u64 0), h_4))
 (
  obind (nilC t0) fun t10 =>
  obind (fldP 0 t10) fun t11 =>
  obind (ldCell h_4 t11) fun v12 =>
  obind (avStr v12) fun t12 =>
  obind (nilC t0) fun t15 =>
  obind (fldP 1 t15) fun t16 =>
  obind (ldCell h_4 t16) fun v17 =>
  obind (avInt .i64 v17) fun t17 =>
  lett (IntKind.i64.wrap ((lenS t12) - t17)) fun (t18 : Int) =>
  lett (decide (t18 < t1)) fun (t20 : Bool) =>
  ifB t20
  (
   obind (nilC t0) fun t23 =>
   obind (fldP 1 t23) fun t24 =>
   obind (ldCell h_4 t24) fun v25 =>
   obind (avInt .i64 v25) fun t25 =>
   callN (call 86 [t0, .int .i64 7, .int .i64 t25] h_4) fun _ h_26 =>
   some (.ret (.int .u64 0), h_26))
  (
   lett (fun (t5 : Int) (h_34 : AHeap) =>
    some (.ret (.int .u64 t5), h_34)) fun k33 =>
   wire_Reader_number_L0 t0 t1 k33 n 0 0 h_4))
set_option maxHeartbeats 4000000 in
set_option maxRecDepth 20000 in
theorem wire_Reader_number_ok {call : CallF} (hc : SaysAll Try.prog call) {n : Nat} {t0 : AV} {t1 : Int} {h : AHeap} {rR : ARes} {hR : AHeap} (hF : wire_Reader_number call n t0 t1 h = some (rR, hR)) : Says Try.prog 81 [t0, .int .i64 t1] h rR hR := by
 unfold wire_Reader_number at hF
 refine sO Try.func81 fun w0 m0 => ?_
 refine wW [(0, t0), (1, .int .i64 t1)] ?_
 refine oG fun n1 => W.r ?_
 refine oA 4 (.int .u64 0) ?_
 refine oV [(0, t0), (1, .int .i64 t1)] (n1 ?_)
 refine oH fun n2 q2 => ?_
 refine oG fun n3 => W.r ?_
 refine oA 6 t0 ?_
 refine oCb hc 7 hF fun t7 h_4 hF => ?_
 refine oB 8 hF fun t8 hF => ?_
 refine oV [(0, t0), (1, .int .i64 t1), (8, .bool t8)] (n3 ?_)
 cases t8 with
 | true =>
  refine oT hF fun hF => ?_
  refine oG fun n8 => W.r ?_
  refine oA 4 (.int .u64 0) ?_
  refine oV [(4, .int .u64 0)] (n8 (oY (q2 ?_)))
  exact lZ hF [.tmp 4] [.int .u64 0] (rT res_nil)
 | false =>
  refine oU hF fun hF => ?_
  refine oZ (n2 ?_)
  refine oH fun n9 q9 => ?_
  refine oG fun n10 => ?_
  refine W.draw (by kernel_rfl) (hc.ok w0) (plan := [0, 1, 2, 3, 4, 5, 6, 7, 8, 9, 10, 11]) (by kernel_rfl) (by kernel_rfl) (by kernel_rfl) ?_
  refine WD.a 0 (some 9) t0 h_4 ?_
  obtain ⟨t10, e11, hF⟩ := obind_some hF
  refine WD.b 0 (some 10) t10 h_4 (nil_chk (h := h_4) e11) ?_
  obtain ⟨t11, e12, hF⟩ := obind_some hF
  refine WD.b 0 (some 11) t11 h_4 (field_ptr (P := Try.prog) (h := h_4) (s := 154) (f := 0) (by kernel_rfl) e12) ?_
  replace hF := obind_some hF; obtain ⟨v12, e13, hF⟩ := hF
  replace hF := obind_some hF; obtain ⟨t12, c14, hF⟩ := hF
  have c14 := avStr_some c14
  subst c14
  refine WD.b 1 (some 12) (strA t12) h_4 (load_cell (P := Try.prog) (h := h_4) (t := 9) (by kernel_rfl) e13) ?_
  refine WD.a 0 (some 13) (.int .i64 (lenS t12)) h_4 ?_
  refine WD.a 0 (some 14) t0 h_4 ?_
  obtain ⟨t15, e15, hF⟩ := obind_some hF
  refine WD.b 0 (some 15) t15 h_4 (nil_chk (h := h_4) e15) ?_
  obtain ⟨t16, e16, hF⟩ := obind_some hF
  refine WD.b 0 (some 16) t16 h_4 (field_ptr (P := Try.prog) (h := h_4) (s := 154) (f := 1) (by kernel_rfl) e16) ?_
  replace hF := obind_some hF; obtain ⟨v17, e17, hF⟩ := hF
  replace hF := obind_some hF; obtain ⟨t17, c18, hF⟩ := hF
  have c18 := avInt_some c18
  subst c18
  refine WD.b 1 (some 17) (.int .i64 t17) h_4 (load_cell (P := Try.prog) (h := h_4) (t := 3) (by kernel_rfl) e17) ?_
  obtain ⟨t18, e19, hF⟩ := lett_some hF
  refine WD.val (d := (some 18)) (v := .int .i64 t18) (h' := h_4) (by kernel_rfl) (by kernel_rfl) (val_of (AV.int .i64) e19 (by kernel_rfl)) (k := 0) (by kernel_rfl) (fun e => absurd e (by decide)) (by decide) ?_
  refine WD.a 0 (some 19) (.int .i64 t1) h_4 ?_
  obtain ⟨t20, e20, hF⟩ := lett_some hF
  refine WD.val (d := (some 20)) (v := .bool t20) (h' := h_4) (by kernel_rfl) (by kernel_rfl) (val_of AV.bool e20 (by kernel_rfl)) (k := 0) (by kernel_rfl) (fun e => absurd e (by decide)) (by decide) ?_
  refine WD.nil ?_
  refine gW [(0, t0), (1, .int .i64 t1), (20, .bool t20)] (n10 ?_)
  cases t20 with
  | true =>
   refine oT hF fun hF => ?_
   refine oG fun n21 => W.r ?_
   refine oA 21 t0 ?_
   refine oA 22 t0 ?_
   refine oC0 23 hF fun t23 hF => ?_
   refine oF 24 154 1 hF fun t24 hF => ?_
   refine oLi 25 3 hF fun t25 hF => ?_
   refine oC hc (some 26) hF fun r26 h_26 hF => ?_
   refine oV [] (n21 ?_)
   refine oG fun n28 => W.r ?_
   refine oA 4 (.int .u64 0) ?_
   refine oV [(4, .int .u64 0)] (n28 (oY (q9 ?_)))
   exact lZ hF [.tmp 4] [.int .u64 0] (rT res_nil)
  | false =>
   refine oU hF fun hF => ?_
   refine oZ (n9 ?_)
   refine oG fun n29 => W.r ?_
   refine oA 5 (.int .u64 0) ?_
   refine oV [(0, t0), (1, .int .i64 t1), (5, .int .u64 0)] (n29 ?_)
   refine W.s (fun K30 n30 e30 q30 p30 => ?_)
   refine oG fun n31 => W.r ?_
   refine oA 27 (.int .i64 t1) ?_
   refine oA 28 (.int .i64 0) ?_
   refine oV [(0, t0), (5, .int .u64 0), (27, .int .i64 t1), (28, .int .i64 0)] (n31 ?_)
   obtain ⟨k33, e33, hF⟩ := lett_some hF
   have J33 : ∀ (t5 : Int) (h_34 : AHeap), k33 t5 h_34 = some (rR, hR) → Go w0 m0 (Func.ntmps Try.f81) (K30 .normal) [(5, .int .u64 t5)] [] h_34 := by
    intro t5 h_34 hF
    rw [e33] at hF
    refine n30 ?_
    refine oG fun n35 => W.r ?_
    refine oA 51 (.int .u64 t5) ?_
    refine oA 4 (.int .u64 t5) ?_
    refine oV [(4, .int .u64 t5)] (n35 (oY ?_))
    exact lZ hF [.tmp 4] [.int .u64 t5] (rT res_nil)
   refine W.blockK (by kernel_rfl) (fun K32 n32 s32 o32 q32 p32 => ?_)
   refine W.loopK (by kernel_rfl) (fun I36 K36 b36 n36 e36 q36 p36 => ?_)
   have L36 : ∀ (m : Nat) (t5_37 : Int) (t28 : Int) (h_38 : AHeap), wire_Reader_number_L0 t0 t1 k33 m t5_37 t28 h_38 = some (rR, hR) → Go w0 m0 (Func.ntmps Try.f81) I36 [(0, t0), (5, .int .u64 t5_37), (27, .int .i64 t1), (28, .int .i64 t28)] [] h_38 := by
    intro m
    induction m with
    | zero => intro t5_37 t28 h_38 hF; cases hF
    | succ m ih36 =>
     intro t5_37 t28 h_38 hF
     rw [wire_Reader_number_L0_s] at hF; unfold wire_Reader_number_L0b at hF
     refine b36 ?_
     refine oG fun n39 => W.r ?_
     refine oB 29 hF fun t29 hF => ?_
     refine oV [(0, t0), (5, .int .u64 t5_37), (27, .int .i64 t1), (28, .int .i64 t28), (29, .bool t29)] (n39 ?_)
     refine W.s (fun K41 n41 e41 q41 p41 => ?_)
     cases t29 with
     | true =>
      refine oT hF fun hF => ?_
      refine oZ (n41 ?_)
      refine oG fun n42 => ?_
      refine W.blockK (by kernel_rfl) (fun K43 n43 s43 o43 q43 p43 => ?_)
      refine oG fun n44 => ?_
      refine W.draw (by kernel_rfl) (hc.ok w0) (plan := [0, 1, 2, 3, 4, 5, 6, 7, 8, 9, 10, 11, 12, 13]) (by kernel_rfl) (by kernel_rfl) (by kernel_rfl) ?_
      refine WD.a 0 (some 30) (.int .u64 t5_37) h_38 ?_
      obtain ⟨t31, e45, hF⟩ := obind_some hF
      refine WD.b 0 (some 31) (.int .u64 t31) h_38 (shl_int (P := Try.prog) (h := h_38) (t := 64) (k' := .u64) (lit := true) e45) ?_
      refine WD.a 0 (some 32) t0 h_38 ?_
      obtain ⟨t33, e46, hF⟩ := obind_some hF
      refine WD.b 0 (some 33) t33 h_38 (nil_chk (h := h_38) e46) ?_
      obtain ⟨t34, e47, hF⟩ := obind_some hF
      refine WD.b 0 (some 34) t34 h_38 (field_ptr (P := Try.prog) (h := h_38) (s := 154) (f := 0) (by kernel_rfl) e47) ?_
      replace hF := obind_some hF; obtain ⟨v35, e48, hF⟩ := hF
      replace hF := obind_some hF; obtain ⟨t35, c49, hF⟩ := hF
      have c49 := avStr_some c49
      subst c49
      refine WD.b 1 (some 35) (strA t35) h_38 (load_cell (P := Try.prog) (h := h_38) (t := 9) (by kernel_rfl) e48) ?_
      refine WD.a 0 (some 36) t0 h_38 ?_
      obtain ⟨t37, e50, hF⟩ := obind_some hF
      refine WD.b 0 (some 37) t37 h_38 (nil_chk (h := h_38) e50) ?_
      obtain ⟨t38, e51, hF⟩ := obind_some hF
      refine WD.b 0 (some 38) t38 h_38 (field_ptr (P := Try.prog) (h := h_38) (s := 154) (f := 1) (by kernel_rfl) e51) ?_
      replace hF := obind_some hF; obtain ⟨v39, e52, hF⟩ := hF
      replace hF := obind_some hF; obtain ⟨t39, c53, hF⟩ := hF
      have c53 := avInt_some c53
      subst c53
      refine WD.b 1 (some 39) (.int .i64 t39) h_38 (load_cell (P := Try.prog) (h := h_38) (t := 3) (by kernel_rfl) e52) ?_
      obtain ⟨t40, e54, hF⟩ := obind_some hF
      refine WD.b 0 (some 40) (.int .u8 t40) h_38 (index_str (P := Try.prog) (h := h_38) (t := 9) (k := .i64) (by kernel_rfl) e54) ?_
      obtain ⟨t41, e55, hF⟩ := lett_some hF
      refine WD.val (d := (some 41)) (v := .int .u64 t41) (h' := h_38) (by kernel_rfl) (by kernel_rfl) (val_of (AV.int .u64) e55 (by kernel_rfl)) (k := 0) (by kernel_rfl) (fun e => absurd e (by decide)) (by decide) ?_
      obtain ⟨t42, e56, hF⟩ := lett_some hF
      refine WD.val (d := (some 42)) (v := .int .u64 t42) (h' := h_38) (by kernel_rfl) (by kernel_rfl) (val_of (AV.int .u64) e56 (by kernel_rfl)) (k := 0) (by kernel_rfl) (fun e => absurd e (by decide)) (by decide) ?_
      refine WD.val (d := (some 5)) (v := .int .u64 t42) (h' := h_38) (by kernel_rfl) (by kernel_rfl) (by kernel_rfl) (k := 2) (by kernel_rfl) (fun _ => (by kernel_rfl)) (by decide) ?_
      refine WD.nil ?_
      refine gW [(0, t0), (5, .int .u64 t42), (27, .int .i64 t1), (28, .int .i64 t28)] (n44 (W.r ?_))
      refine oA 43 t0 ?_
      refine oC0 44 hF fun t44 hF => ?_
      refine oF 45 154 1 hF fun t45 hF => ?_
      refine oLi 46 3 hF fun t46 hF => ?_
      refine oI 47 .i64 hF fun t47 hF => ?_
      refine oC0 48 hF fun t48 hF => ?_
      refine oF 49 154 1 hF fun t49 hF => ?_
      refine oW 3 (.int .i64 t47) hF fun h_64 hF => ?_
      refine oV [(0, t0), (5, .int .u64 t42), (27, .int .i64 t1), (28, .int .i64 t28)] (n43 (n42 (W.r ?_)))
      refine oI 50 .i64 hF fun t50 hF => ?_
      refine oA 28 (.int .i64 t50) ?_
      refine oV [(0, t0), (5, .int .u64 t42), (27, .int .i64 t1), (28, .int .i64 t50)] (n36 ?_)
      exact gW _ (ih36 _ _ _ hF)
     | false =>
      refine oU hF fun hF => ?_
      refine W.exit (by kernel_rfl) ?_
      refine e41 (e36 ?_)
      refine s32 (by kernel_rfl) ?_
      exact gW _ (J33 _ _ hF)
   exact gW _ (L36 _ _ _ _ hF)
noncomputable def wire_Reader_whole (_ : CallF) (_ : Nat) (t0 : AV) (h : AHeap) : R :=
 outK (opBin Try.prog h .neq 140 true (some t0) (some AV.nilp)) fun v4 h_3 =>
 obind (avBool v4) fun t4 =>
 lett (fun (t12 : Bool) (h_6 : AHeap) =>
  some (.ret (.bool t12), h_6)) fun j12 =>
 ifB t4
 (
  obind (nilC t0) fun t7 =>
  obind (fldP 2 t7) fun t8 =>
  obind (fldP 0 t8) fun t9 =>
  obind (ldCell h_3 t9) fun v10 =>
  obind (avInt .i64 v10) fun t10 =>
  lett ((t10 : Int) == 0) fun (t11 : Bool) =>
  j12 t11 h_3)
 (
  j12 false h_3)
set_option maxHeartbeats 4000000 in
set_option maxRecDepth 20000 in
theorem wire_Reader_whole_ok {call : CallF} (_ : SaysAll Try.prog call) {n : Nat} {t0 : AV} {h : AHeap} {rR : ARes} {hR : AHeap} (hF : wire_Reader_whole call n t0 h = some (rR, hR)) : Says Try.prog 82 [t0] h rR hR := by
 unfold wire_Reader_whole at hF
 refine sO Try.func82 fun w0 m0 => ?_
 refine wW [(0, t0)] ?_
 refine oG fun n1 => W.r ?_
 refine oA 2 (.bool false) ?_
 refine oV [(0, t0)] (n1 ?_)
 refine W.s (fun K2 n2 e2 q2 p2 => ?_)
 refine W.r ?_
 refine oA 3 t0 ?_
 replace hF := outK_some hF; obtain ⟨v4, h_3, e4, hF⟩ := hF
 replace hF := obind_some hF; obtain ⟨t4, c5, hF⟩ := hF
 have c5 := avBool_some c5
 subst c5
 refine WL.b (some 4) (.bool t4) h_3 e4 ?_
 refine oA 5 (.bool t4) ?_
 obtain ⟨j12, e7, hF⟩ := lett_some hF
 have J8 : ∀ (t12 : Bool) (h_6 : AHeap), j12 t12 h_6 = some (rR, hR) → WL Try.prog w0 m0 (Func.ntmps Try.f82) (Code.ops (Code.p1 (Code.p2 (codeOf Try.f82)))) 10 K2 [(12, .bool t12)] [] h_6 := by
  intro t12 h_6 hF
  rw [e7] at hF
  refine oA 2 (.bool t12) ?_
  refine oV [(2, .bool t12)] (n2 (oY ?_))
  exact lZ hF [.tmp 2] [.bool t12] (rT res_nil)
 cases t4 with
 | true =>
  replace hF := ifB_t hF
  refine oA 6 t0 ?_
  refine oC0 7 hF fun t7 hF => ?_
  refine oF 8 154 2 hF fun t8 hF => ?_
  refine oF 9 145 0 hF fun t9 hF => ?_
  refine oLi 10 26 hF fun t10 hF => ?_
  refine oB 11 hF fun t11 hF => ?_
  refine oA 12 (.bool t11) ?_
  exact lW _ (J8 _ _ hF)
 | false =>
  replace hF := ifB_f hF
  refine WL.o (some 6) ?_
  refine WL.o (some 7) ?_
  refine WL.o (some 8) ?_
  refine WL.o (some 9) ?_
  refine WL.o (some 10) ?_
  refine WL.o (some 11) ?_
  refine oA 12 (.bool false) ?_
  exact lW _ (J8 _ _ hF)
noncomputable def wire_Reader_fail (_ : CallF) (_ : Nat) (t0 : AV) (t1 : Int) (t2 : Int) (h : AHeap) : R :=
 obind (nilC t0) fun t10 =>
 obind (fldP 2 t10) fun t11 =>
 obind (stRow h 2 ([.int .i64 t1, .int .i64 t2] : List AV) t11) fun h_3 =>
 some (.ret (.tup []), h_3)
set_option maxHeartbeats 4000000 in
set_option maxRecDepth 20000 in
theorem wire_Reader_fail_ok {call : CallF} (_ : SaysAll Try.prog call) {n : Nat} {t0 : AV} {t1 : Int} {t2 : Int} {h : AHeap} {rR : ARes} {hR : AHeap} (hF : wire_Reader_fail call n t0 t1 t2 h = some (rR, hR)) : Says Try.prog 86 [t0, .int .i64 t1, .int .i64 t2] h rR hR := by
 unfold wire_Reader_fail at hF
 refine sO Try.func86 fun w0 m0 => ?_
 refine wW [(0, t0), (1, .int .i64 t1), (2, .int .i64 t2)] ?_
 refine W.r ?_
 refine oA 6 t0 ?_
 refine oA 7 (.int .i64 t1) ?_
 refine oA 8 (.int .i64 t2) ?_
 refine oA 9 (.agg ([.int .i64 t1, .int .i64 t2] : List AV)) ?_
 refine oC0 10 hF fun t10 hF => ?_
 refine oF 11 154 2 hF fun t11 hF => ?_
 refine oW 145 (.agg ([.int .i64 t1, .int .i64 t2] : List AV)) hF fun h_3 hF => ?_
 refine oV [] ?_
 exact lY hF [] [] res_nil
noncomputable def vote_Check (_ : CallF) (_ : Nat) (t0 : List AV) (h : AHeap) : R :=
 outK (opBox h 31 (some (.agg t0))) fun v1 h_2 =>
 obind (fldP 0 v1) fun t3 =>
 obind (ldCell h_2 t3) fun v4 =>
 obind (avInt .i64 v4) fun t4 =>
 lett (decide (t4 < 0)) fun (t5 : Bool) =>
 lett (fun (t10 : Bool) (h_10 : AHeap) =>
  lett (fun (t15 : Bool) (h_13 : AHeap) =>
   lett (fun (t20 : Bool) (h_16 : AHeap) =>
    ifB t20
    (
     some (.ret (.int .i64 2), h_16))
    (
     some (.ret (.int .i64 0), h_16))) fun j20 =>
   ifB t15
   (
    j20 true h_13)
   (
    obind (fldP 1 v1) fun t17 =>
    obind (ldCell h_13 t17) fun v18 =>
    obind (avInt .i64 v18) fun t18 =>
    lett (decide (t18 ≥ 3)) fun (t19 : Bool) =>
    j20 t19 h_13)) fun j15 =>
  ifB t10
  (
   j15 true h_10)
  (
   obind (fldP 1 v1) fun t12 =>
   obind (ldCell h_10 t12) fun v13 =>
   obind (avInt .i64 v13) fun t13 =>
   lett (decide (t13 < (-1))) fun (t14 : Bool) =>
   j15 t14 h_10)) fun j10 =>
 ifB t5
 (
  j10 true h_2)
 (
  obind (fldP 0 v1) fun t7 =>
  obind (ldCell h_2 t7) fun v8 =>
  obind (avInt .i64 v8) fun t8 =>
  lett (decide (t8 > 1099511627776)) fun (t9 : Bool) =>
  j10 t9 h_2)
set_option maxHeartbeats 4000000 in
set_option maxRecDepth 20000 in
theorem vote_Check_ok {call : CallF} (_ : SaysAll Try.prog call) {n : Nat} {t0 : List AV} {h : AHeap} {rR : ARes} {hR : AHeap} (hF : vote_Check call n t0 h = some (rR, hR)) : Says Try.prog 17 [.agg t0] h rR hR := by
 unfold vote_Check at hF
 refine sO Try.func17 fun w0 m0 => ?_
 refine wW [(0, .agg t0)] ?_
 refine oG fun n1 => W.r ?_
 refine oK 1 hF fun v1 h_2 hF => ?_
 refine oA 2 (.int .i64 0) ?_
 refine oV [(1, v1)] (n1 ?_)
 refine oH fun n4 q4 => ?_
 refine W.s (fun K5 n5 e5 q5 p5 => ?_)
 refine W.r ?_
 refine oF 3 31 0 hF fun t3 hF => ?_
 refine oLi 4 3 hF fun t4 hF => ?_
 refine oB 5 hF fun t5 hF => ?_
 refine oA 6 (.bool t5) ?_
 obtain ⟨j10, e11, hF⟩ := lett_some hF
 have J12 : ∀ (t10 : Bool) (h_10 : AHeap), j10 t10 h_10 = some (rR, hR) → WL Try.prog w0 m0 (Func.ntmps Try.f17) (Code.ops (Code.p1 (Code.p1 (Code.p2 (codeOf Try.f17))))) 8 K5 [(1, v1), (10, .bool t10)] [] h_10 := by
  intro t10 h_10 hF
  rw [e11] at hF
  refine oA 11 (.bool t10) ?_
  obtain ⟨j15, e14, hF⟩ := lett_some hF
  have J15 : ∀ (t15 : Bool) (h_13 : AHeap), j15 t15 h_13 = some (rR, hR) → WL Try.prog w0 m0 (Func.ntmps Try.f17) (Code.ops (Code.p1 (Code.p1 (Code.p2 (codeOf Try.f17))))) 13 K5 [(1, v1), (15, .bool t15)] [] h_13 := by
   intro t15 h_13 hF
   rw [e14] at hF
   refine oA 16 (.bool t15) ?_
   obtain ⟨j20, e17, hF⟩ := lett_some hF
   have J18 : ∀ (t20 : Bool) (h_16 : AHeap), j20 t20 h_16 = some (rR, hR) → WL Try.prog w0 m0 (Func.ntmps Try.f17) (Code.ops (Code.p1 (Code.p1 (Code.p2 (codeOf Try.f17))))) 18 K5 [(20, .bool t20)] [] h_16 := by
    intro t20 h_16 hF
    rw [e17] at hF
    refine oV [(20, .bool t20)] (n5 ?_)
    cases t20 with
    | true =>
     refine oT hF fun hF => ?_
     refine oG fun n19 => W.r ?_
     refine oA 2 (.int .i64 2) ?_
     refine oV [(2, .int .i64 2)] (n19 (oY (q4 ?_)))
     exact lZ hF [.tmp 2] [.int .i64 2] (rT res_nil)
    | false =>
     refine oU hF fun hF => ?_
     refine oZ (n4 ?_)
     refine oG fun n20 => W.r ?_
     refine oA 2 (.int .i64 0) ?_
     refine oV [(2, .int .i64 0)] (n20 (oY ?_))
     exact lZ hF [.tmp 2] [.int .i64 0] (rT res_nil)
   cases t15 with
   | true =>
    replace hF := ifB_t hF
    refine WL.o (some 17) ?_
    refine WL.o (some 18) ?_
    refine WL.o (some 19) ?_
    refine oA 20 (.bool true) ?_
    exact lW _ (J18 _ _ hF)
   | false =>
    replace hF := ifB_f hF
    refine oF 17 31 1 hF fun t17 hF => ?_
    refine oLi 18 3 hF fun t18 hF => ?_
    refine oB 19 hF fun t19 hF => ?_
    refine oA 20 (.bool t19) ?_
    exact lW _ (J18 _ _ hF)
  cases t10 with
  | true =>
   replace hF := ifB_t hF
   refine WL.o (some 12) ?_
   refine WL.o (some 13) ?_
   refine WL.o (some 14) ?_
   refine oA 15 (.bool true) ?_
   exact lW _ (J15 _ _ hF)
  | false =>
   replace hF := ifB_f hF
   refine oF 12 31 1 hF fun t12 hF => ?_
   refine oLi 13 3 hF fun t13 hF => ?_
   refine oB 14 hF fun t14 hF => ?_
   refine oA 15 (.bool t14) ?_
   exact lW _ (J15 _ _ hF)
 cases t5 with
 | true =>
  replace hF := ifB_t hF
  refine WL.o (some 7) ?_
  refine WL.o (some 8) ?_
  refine WL.o (some 9) ?_
  refine oA 10 (.bool true) ?_
  exact lW _ (J12 _ _ hF)
 | false =>
  replace hF := ifB_f hF
  refine oF 7 31 0 hF fun t7 hF => ?_
  refine oLi 8 3 hF fun t8 hF => ?_
  refine oB 9 hF fun t9 hF => ?_
  refine oA 10 (.bool t9) ?_
  exact lW _ (J12 _ _ hF)
noncomputable def vote_Box_Now (_ : CallF) (_ : Nat) (t0 : AV) (h : AHeap) : R :=
 lett (newH h 31 [.int .i64 0, .int .i64 0]) fun h_2 =>
 outK (opBin Try.prog h_2 .eql 25 true (some t0) (some AV.nilp)) fun v4 h_6 =>
 obind (avBool v4) fun t4 =>
 ifB t4
 (
  obind (stRow h_6 2 ([.int .i64 0, .int .i64 0] : List AV) (newP h)) fun h_10 =>
  obind (ldRow h_10 2 (newP h)) fun w2 =>
  some (.ret (.agg w2), h_10))
 (
  obind (nilC t0) fun t7 =>
  obind (fldP 3 t7) fun t8 =>
  obind (fldP 1 t8) fun t9 =>
  obind (ldRow h_6 2 t9) fun t10 =>
  obind (stRow h_6 2 t10 (newP h)) fun h_18 =>
  obind (ldRow h_18 2 (newP h)) fun w2_21 =>
  some (.ret (.agg w2_21), h_18))
set_option maxHeartbeats 4000000 in
set_option maxRecDepth 20000 in
theorem vote_Box_Now_ok {call : CallF} (_ : SaysAll Try.prog call) {n : Nat} {t0 : AV} {h : AHeap} {rR : ARes} {hR : AHeap} (hF : vote_Box_Now call n t0 h = some (rR, hR)) : Says Try.prog 16 [t0] h rR hR := by
 unfold vote_Box_Now at hF
 refine sO Try.func16 fun w0 m0 => ?_
 refine wW [(0, t0)] ?_
 refine oG fun n1 => W.r ?_
 refine oN 2 hF fun h_2 hF => ?_
 refine oV [(0, t0), (2, (newP h))] (n1 ?_)
 refine oH fun n4 q4 => ?_
 refine oG fun n5 => W.r ?_
 refine oA 3 t0 ?_
 replace hF := outK_some hF; obtain ⟨v4, h_6, e7, hF⟩ := hF
 replace hF := obind_some hF; obtain ⟨t4, c8, hF⟩ := hF
 have c8 := avBool_some c8
 subst c8
 refine WL.b (some 4) (.bool t4) h_6 e7 ?_
 refine oV [(0, t0), (2, (newP h)), (4, .bool t4)] (n5 ?_)
 cases t4 with
 | true =>
  refine oT hF fun hF => ?_
  refine oG fun n9 => W.r ?_
  refine oA 5 (.agg ([.int .i64 0, .int .i64 0] : List AV)) ?_
  refine oW 31 (.agg ([.int .i64 0, .int .i64 0] : List AV)) hF fun h_10 hF => ?_
  refine oV [(2, (newP h))] (n9 (oY (q4 ?_)))
  obtain ⟨w2, e12, hF⟩ := obind_some hF
  exact lZ hF [.cell 2 31] [.agg w2] (rY e12 res_nil)
 | false =>
  refine oU hF fun hF => ?_
  refine oZ (n4 ?_)
  refine oG fun n13 => W.r ?_
  refine oA 6 t0 ?_
  refine oC0 7 hF fun t7 hF => ?_
  refine oF 8 92 2 hF fun t8 hF => ?_
  refine oF 9 89 1 hF fun t9 hF => ?_
  refine oR 10 31 hF fun t10 hF => ?_
  refine oW 31 (.agg t10) hF fun h_18 hF => ?_
  refine oV [(2, (newP h))] (n13 (oY ?_))
  obtain ⟨w2_21, e20, hF⟩ := obind_some hF
  exact lZ hF [.cell 2 31] [.agg w2_21] (rY e20 res_nil)
noncomputable def vote_Box_Write_L0b (call : CallF) (v2 : AV) (t60 : List AV) (k83 : AHeap → R) (self : Int → AHeap → R) (t61 : Int) (h_131 : AHeap) : R :=
 lett (decide (t61 < 3)) fun (t62 : Bool) =>
 ifB t62
 (
  outK (opIndex Try.prog h_131 99 (some (.agg t60)) (some (.int .i64 t61))) fun v63 h_138 =>
  obind (ldCell h_138 v2) fun v64 =>
  callN (dynC Try.prog call v63 [] h_138) fun r66 h_142 =>
  obind (avInt .i64 r66) fun t66 =>
  chk (reLoad Try.prog h_142 25 v2 v64 && true) <|
  obind (nilC v64) fun t67 =>
  obind (fldP 7 t67) fun t68 =>
  obind (stRow h_142 1 [.int .i64 t66] t68) fun h_148 =>
  obind (ldCell h_148 v2) fun v69 =>
  obind (nilC v69) fun t70 =>
  obind (fldP 7 t70) fun t71 =>
  obind (ldCell h_148 t71) fun v72 =>
  obind (avInt .i64 v72) fun t72 =>
  lett ((t72 : Int) != 0) fun (t73 : Bool) =>
  ifB t73
  (
   obind (ldCell h_148 v2) fun v74 =>
   obind (nilC v74) fun t75 =>
   obind (fldP 7 t75) fun t76 =>
   obind (ldCell h_148 t76) fun v77 =>
   obind (avInt .i64 v77) fun t77 =>
   some (.ret (.int .i64 t77), h_148))
  (
   lett (IntKind.i64.wrap (t61 + 1)) fun (t78 : Int) =>
   self t78 h_148))
 (
  k83 h_131)
noncomputable def vote_Box_Write_L0 (call : CallF) (v2 : AV) (t60 : List AV) (k83 : AHeap → R) : Nat → Int → AHeap → R := iterR (fun _ _ => none) (vote_Box_Write_L0b call v2 t60 k83)
theorem vote_Box_Write_L0_s (call : CallF) (v2 : AV) (t60 : List AV) (k83 : AHeap → R) (m : Nat) : vote_Box_Write_L0 call v2 t60 k83 (m + 1) = vote_Box_Write_L0b call v2 t60 k83 (vote_Box_Write_L0 call v2 t60 k83 m) := rfl
noncomputable def vote_Box_Write (call : CallF) (n : Nat) (t0 : AV) (t1 : List AV) (h : AHeap) : R :=
 outK (opBox h 25 (some t0)) fun v2 h_2 =>
 outK (opBox h_2 31 (some (.agg t1))) fun v3 h_4 =>
 obind (ldCell h_4 v2) fun v14 =>
 obind (ldRow h_4 2 v3) fun t15 =>
 callN (call 31 [v14, .agg t15] h_4) fun r16 h_10 =>
 obind (avInt .i64 r16) fun t16 =>
 lett (fun (t27 : Bool) (h_15 : AHeap) =>
  ifB t27
  (
   some (.ret (.int .i64 t16), h_15))
  (
   obind (ldCell h_15 v2) fun v29 =>
   obind (nilC v29) fun t30 =>
   obind (fldP 3 t30) fun t31 =>
   obind (fldP 0 t31) fun t32 =>
   obind (ldCell h_15 t32) fun v33 =>
   obind (avInt .i64 v33) fun t33 =>
   lett (decide (t33 ≥ 4611686018427387904)) fun (t34 : Bool) =>
   ifB t34
   (
    some (.ret (.int .i64 5), h_15))
   (
    obind (ldCell h_15 v2) fun v35 =>
    obind (nilC v35) fun t36 =>
    obind (fldP 3 t36) fun t37 =>
    obind (fldP 0 t37) fun t38 =>
    obind (ldCell h_15 t38) fun v39 =>
    obind (avInt .i64 v39) fun t39 =>
    lett (IntKind.i64.wrap (t39 + 1)) fun (t40 : Int) =>
    obind (ldRow h_15 2 v3) fun t41 =>
    obind (bldS Try.prog 89 [(0, .int .i64 t40), (1, .agg t41)]) fun t42 =>
    lett (newH h_15 89 [.int .i64 0, .int .i64 0, .int .i64 0]) fun h_37 =>
    obind (stRow h_37 3 t42 (newP h_15)) fun h_39 =>
    obind (ldRow h_39 3 (newP h_15)) fun t44 =>
    callN (call 32 [.agg t44] h_39) fun r45 h_43 =>
    obind (extT 0 r45) fun v46 =>
    obind (avStr v46) fun t46 =>
    obind (extT 1 r45) fun v47 =>
    obind (avInt .i64 v47) fun t47 =>
    lett (newH h_43 9 [.str 0 0]) fun h_49 =>
    obind (stRow h_49 1 [strA t46] (newP h_43)) fun h_51 =>
    lett ((t47 : Int) != 0) fun (t49 : Bool) =>
    ifB t49
    (
     some (.ret (.int .i64 t47), h_51))
    (
     obind (ldCell h_51 v2) fun v52 =>
     callN (call 33 [v52] h_51) fun r53 h_59 =>
     obind (extT 0 r53) fun v54 =>
     obind (avInt .i64 v54) fun t54 =>
     obind (extT 1 r53) fun v55 =>
     obind (avBool v55) fun t55 =>
     lett (newH h_59 3 [.int .i64 0]) fun h_65 =>
     lett (newH h_65 4 [.bool false]) fun h_67 =>
     obind (stRow h_67 1 [.int .i64 t54] (newP h_59)) fun h_69 =>
     obind (stRow h_69 1 [.bool t55] (newP h_65)) fun h_71 =>
     obind (bldS Try.prog 99 [(0, (AV.fn 34 [] [(newP h_65), v2, (newP h_59)])), (1, (AV.fn 37 [] [v2, (newP h_59), (newP h_43)])), (2, (AV.fn 38 [] [v2, (newP h_59)]))]) fun t59 =>
     lett (newH h_71 99 [.nfn, .nfn, .nfn]) fun h_75 =>
     obind (stRow h_75 3 t59 (newP h_71)) fun h_77 =>
     obind (ldRow h_77 3 (newP h_71)) fun t60 =>
     lett (fun  (h_84 : AHeap) =>
      obind (ldCell h_84 (newP h_65)) fun v79 =>
      obind (avBool v79) fun t79 =>
      lett (fun  (h_90 : AHeap) =>
       obind (ldCell h_90 v2) fun v85 =>
       obind (ldCell h_90 (newP h_59)) fun v86 =>
       obind (avInt .i64 v86) fun t86 =>
       obind (nilC v85) fun t87 =>
       obind (fldP 1 t87) fun t88 =>
       obind (idxA 2 1 t88 t86) fun t89 =>
       obind (ldCell h_90 t89) fun v90 =>
       obind (avInt .i64 v90) fun t90 =>
       lett (IntKind.i64.wrap (t90 + 1)) fun (t91 : Int) =>
       obind (nilC v85) fun t92 =>
       obind (fldP 1 t92) fun t93 =>
       obind (idxA 2 1 t93 t86) fun t94 =>
       obind (stRow h_90 1 [.int .i64 t91] t94) fun h_104 =>
       obind (ldCell h_104 v2) fun v95 =>
       obind (ldCell h_104 v2) fun v96 =>
       obind (ldRow h_104 3 (newP h_15)) fun t97 =>
       obind (ldCell h_104 (newP h_59)) fun v98 =>
       obind (avInt .i64 v98) fun t98 =>
       obind (nilC v95) fun t99 =>
       obind (fldP 3 t99) fun t100 =>
       obind (stRow h_104 3 t97 t100) fun h_114 =>
       chk (reLoad Try.prog h_114 3 (newP h_59) (.int .i64 t98) && (true && (reLoad Try.prog h_114 25 v2 v96 && (true && true)))) <|
       obind (nilC v96) fun t101 =>
       obind (fldP 6 t101) fun t102 =>
       obind (stRow h_114 1 [.int .i64 t98] t102) fun h_119 =>
       some (.ret (.int .i64 0), h_119)) fun k89 =>
      ifB t79
      (
       obind (ldCell h_84 v2) fun v80 =>
       obind (ldCell h_84 (newP h_59)) fun v81 =>
       obind (avInt .i64 v81) fun t81 =>
       obind (nilC v80) fun t82 =>
       obind (fldP 1 t82) fun t83 =>
       obind (idxA 2 1 t83 t81) fun t84 =>
       obind (stRow h_84 1 [.int .i64 0] t84) fun h_128 =>
       k89 h_128)
      (
       k89 h_84)) fun k83 =>
     vote_Box_Write_L0 call v2 t60 k83 n 0 h_77)))) fun k14 =>
 lett ((t16 : Int) != 0) fun (t18 : Bool) =>
 ifB t18
 (
  k14 true h_10)
 (
  obind (ldRow h_10 2 v3) fun t20 =>
  obind (ldCell h_10 v2) fun v21 =>
  obind (nilC v21) fun t22 =>
  obind (fldP 3 t22) fun t23 =>
  obind (fldP 1 t23) fun t24 =>
  obind (ldRow h_10 2 t24) fun t25 =>
  obind (eqOther Try.prog 31 (.agg t20) (.agg t25)) fun t26 =>
  k14 t26 h_10)
set_option maxHeartbeats 4000000 in
set_option maxRecDepth 20000 in
theorem vote_Box_Write_ok {call : CallF} (hc : SaysAll Try.prog call) {n : Nat} {t0 : AV} {t1 : List AV} {h : AHeap} {rR : ARes} {hR : AHeap} (hF : vote_Box_Write call n t0 t1 h = some (rR, hR)) : Says Try.prog 11 [t0, .agg t1] h rR hR := by
 unfold vote_Box_Write at hF
 refine sO Try.func11 fun w0 m0 => ?_
 refine wW [(0, t0), (1, .agg t1)] ?_
 refine oG fun n1 => W.r ?_
 refine oK 2 hF fun v2 h_2 hF => ?_
 refine oK 3 hF fun v3 h_4 hF => ?_
 refine oA 4 (.int .i64 0) ?_
 refine oV [(2, v2), (3, v3)] (n1 ?_)
 refine oH fun n6 q6 => ?_
 refine oG fun n7 => W.r ?_
 refine oL 14 25 hF fun v14 hF => ?_
 refine oR 15 31 hF fun t15 hF => ?_
 refine oCi hc 16 hF fun t16 h_10 hF => ?_
 refine oA 5 (.int .i64 t16) ?_
 refine oV [(2, v2), (3, v3), (5, .int .i64 t16)] (n7 ?_)
 refine W.s (fun K13 n13 e13 q13 p13 => ?_)
 obtain ⟨k14, e14, hF⟩ := lett_some hF
 have J14 : ∀ (t27 : Bool) (h_15 : AHeap), k14 t27 h_15 = some (rR, hR) → Go w0 m0 (Func.ntmps Try.f11) (K13 .normal) [(2, v2), (3, v3), (5, .int .i64 t16), (27, .bool t27)] [] h_15 := by
  intro t27 h_15 hF
  rw [e14] at hF
  refine n13 ?_
  cases t27 with
  | true =>
   refine oT hF fun hF => ?_
   refine oG fun n16 => W.r ?_
   refine oA 28 (.int .i64 t16) ?_
   refine oA 4 (.int .i64 t16) ?_
   refine oV [(4, .int .i64 t16)] (n16 (oY (q6 ?_)))
   exact lZ hF [.tmp 4] [.int .i64 t16] (rT res_nil)
  | false =>
   refine oU hF fun hF => ?_
   refine oZ (n6 ?_)
   refine oH fun n17 q17 => ?_
   refine oG fun n18 => W.r ?_
   refine oL 29 25 hF fun v29 hF => ?_
   refine oC0 30 hF fun t30 hF => ?_
   refine oF 31 92 2 hF fun t31 hF => ?_
   refine oF 32 89 0 hF fun t32 hF => ?_
   refine oLi 33 3 hF fun t33 hF => ?_
   refine oB 34 hF fun t34 hF => ?_
   refine oV [(2, v2), (3, v3), (34, .bool t34)] (n18 ?_)
   cases t34 with
   | true =>
    refine oT hF fun hF => ?_
    refine oG fun n26 => W.r ?_
    refine oA 4 (.int .i64 5) ?_
    refine oV [(4, .int .i64 5)] (n26 (oY (q17 ?_)))
    exact lZ hF [.tmp 4] [.int .i64 5] (rT res_nil)
   | false =>
    refine oU hF fun hF => ?_
    refine oZ (n17 ?_)
    refine oG fun n27 => ?_
    refine W.draw (by kernel_rfl) (hc.ok w0) (plan := [0, 1, 2, 3, 4, 5, 6, 7, 8, 9]) (by kernel_rfl) (by kernel_rfl) (by kernel_rfl) ?_
    obtain ⟨v35, e28, hF⟩ := obind_some hF
    refine WD.b 1 (some 35) v35 h_15 (load_cell (P := Try.prog) (h := h_15) (t := 25) (by kernel_rfl) e28) ?_
    obtain ⟨t36, e29, hF⟩ := obind_some hF
    refine WD.b 0 (some 36) t36 h_15 (nil_chk (h := h_15) e29) ?_
    obtain ⟨t37, e30, hF⟩ := obind_some hF
    refine WD.b 0 (some 37) t37 h_15 (field_ptr (P := Try.prog) (h := h_15) (s := 92) (f := 2) (by kernel_rfl) e30) ?_
    obtain ⟨t38, e31, hF⟩ := obind_some hF
    refine WD.b 0 (some 38) t38 h_15 (field_ptr (P := Try.prog) (h := h_15) (s := 89) (f := 0) (by kernel_rfl) e31) ?_
    replace hF := obind_some hF; obtain ⟨v39, e32, hF⟩ := hF
    replace hF := obind_some hF; obtain ⟨t39, c33, hF⟩ := hF
    have c33 := avInt_some c33
    subst c33
    refine WD.b 1 (some 39) (.int .i64 t39) h_15 (load_cell (P := Try.prog) (h := h_15) (t := 3) (by kernel_rfl) e32) ?_
    obtain ⟨t40, e34, hF⟩ := lett_some hF
    refine WD.val (d := (some 40)) (v := .int .i64 t40) (h' := h_15) (by kernel_rfl) (by kernel_rfl) (val_of (AV.int .i64) e34 (by kernel_rfl)) (k := 0) (by kernel_rfl) (fun e => absurd e (by decide)) (by decide) ?_
    obtain ⟨t41, e35, hF⟩ := obind_some hF
    refine WD.b 1 (some 41) (.agg t41) h_15 (load_row (P := Try.prog) (h := h_15) (t := 31) (by kernel_rfl) (by kernel_rfl) e35) ?_
    obtain ⟨t42, e36, hF⟩ := obind_some hF
    refine WD.val (d := (some 42)) (v := .agg t42) (h' := h_15) (by kernel_rfl) (by kernel_rfl) (bld_ok (by kernel_rfl) e36) (k := 0) (by kernel_rfl) (fun e => absurd e (by decide)) (by decide) ?_
    obtain ⟨h_37, e38, hF⟩ := lett_some hF
    refine WD.val (d := (some 6)) (v := (newP h_15)) (h' := h_37) (by kernel_rfl) (by kernel_rfl) (val_ofH e38 (by kernel_rfl)) (k := 1) (by kernel_rfl) (fun e => absurd e (by decide)) (by decide) ?_
    obtain ⟨h_39, e40, hF⟩ := obind_some hF
    refine WD.eff (h' := h_39) (by kernel_rfl) (by kernel_rfl) (Eq.trans (by kernel_rfl) (store_row (P := Try.prog) (h := h_37) (t := 89) (v := (.agg t42)) (by kernel_rfl) (by kernel_rfl) e40)) (k := 2) (by kernel_rfl) (fun _ => (by kernel_rfl)) (by decide) ?_
    refine WD.nil ?_
    refine gW [(2, v2), (6, (newP h_15))] (n27 ?_)
    refine oG fun n41 => W.r ?_
    refine oR 44 89 hF fun t44 hF => ?_
    refine oC hc (some 45) hF fun r45 h_43 hF => ?_
    refine oA 43 r45 ?_
    refine oEs 46 hF fun t46 hF => ?_
    refine oEi 47 hF fun t47 hF => ?_
    refine oN 7 hF fun h_49 hF => ?_
    refine oW 9 (strA t46) hF fun h_51 hF => ?_
    refine oA 8 (.int .i64 t47) ?_
    refine oV [(2, v2), (6, (newP h_15)), (7, (newP h_43)), (8, .int .i64 t47)] (n41 ?_)
    refine oH fun n53 q53 => ?_
    refine oG fun n54 => W.r ?_
    refine oA 48 (.int .i64 t47) ?_
    refine oB 49 hF fun t49 hF => ?_
    refine oV [(2, v2), (6, (newP h_15)), (7, (newP h_43)), (8, .int .i64 t47), (49, .bool t49)] (n54 ?_)
    cases t49 with
    | true =>
     refine oT hF fun hF => ?_
     refine oG fun n56 => W.r ?_
     refine oA 50 (.int .i64 t47) ?_
     refine oA 4 (.int .i64 t47) ?_
     refine oV [(4, .int .i64 t47)] (n56 (oY (q53 ?_)))
     exact lZ hF [.tmp 4] [.int .i64 t47] (rT res_nil)
    | false =>
     refine oU hF fun hF => ?_
     refine oZ (n53 ?_)
     refine oG fun n57 => W.r ?_
     refine oL 52 25 hF fun v52 hF => ?_
     refine oC hc (some 53) hF fun r53 h_59 hF => ?_
     refine oA 51 r53 ?_
     refine oEi 54 hF fun t54 hF => ?_
     refine oEb 55 hF fun t55 hF => ?_
     refine oN 9 hF fun h_65 hF => ?_
     refine oN 10 hF fun h_67 hF => ?_
     refine oW 3 (.int .i64 t54) hF fun h_69 hF => ?_
     refine oW 4 (.bool t55) hF fun h_71 hF => ?_
     refine oV [(2, v2), (6, (newP h_15)), (7, (newP h_43)), (9, (newP h_59)), (10, (newP h_65))] (n57 ?_)
     refine oG fun n73 => W.r ?_
     refine oA 56 (AV.fn 34 [] [(newP h_65), v2, (newP h_59)]) ?_
     refine oA 57 (AV.fn 37 [] [v2, (newP h_59), (newP h_43)]) ?_
     refine oA 58 (AV.fn 38 [] [v2, (newP h_59)]) ?_
     obtain ⟨t59, e74, hF⟩ := obind_some hF
     refine WL.val (d := (some 59)) (v := .agg t59) (h' := h_71) (by kernel_rfl) (by kernel_rfl) (bld_ok (by kernel_rfl) e74) ?_
     refine oN 11 hF fun h_75 hF => ?_
     refine oW 99 (.agg t59) hF fun h_77 hF => ?_
     refine oV [(2, v2), (6, (newP h_15)), (9, (newP h_59)), (10, (newP h_65)), (11, (newP h_71))] (n73 ?_)
     refine W.s (fun K79 n79 e79 q79 p79 => ?_)
     refine oG fun n80 => W.r ?_
     refine oR 60 99 hF fun t60 hF => ?_
     refine oA 61 (.int .i64 0) ?_
     refine oV [(2, v2), (6, (newP h_15)), (9, (newP h_59)), (10, (newP h_65)), (60, .agg t60), (61, .int .i64 0)] (n80 ?_)
     obtain ⟨k83, e83, hF⟩ := lett_some hF
     have J83 : ∀  (h_84 : AHeap), k83 h_84 = some (rR, hR) → Go w0 m0 (Func.ntmps Try.f11) (K79 .normal) [(2, v2), (6, (newP h_15)), (9, (newP h_59)), (10, (newP h_65))] [] h_84 := by
      intro  h_84 hF
      rw [e83] at hF
      refine n79 ?_
      refine W.s (fun K85 n85 e85 q85 p85 => ?_)
      refine oG fun n86 => W.r ?_
      refine oLb 79 4 hF fun t79 hF => ?_
      refine oV [(2, v2), (6, (newP h_15)), (9, (newP h_59)), (79, .bool t79)] (n86 ?_)
      obtain ⟨k89, e89, hF⟩ := lett_some hF
      have J89 : ∀  (h_90 : AHeap), k89 h_90 = some (rR, hR) → Go w0 m0 (Func.ntmps Try.f11) (K85 .normal) [(2, v2), (6, (newP h_15)), (9, (newP h_59))] [] h_90 := by
       intro  h_90 hF
       rw [e89] at hF
       refine n85 ?_
       refine oG fun n91 => ?_
       refine W.draw (by kernel_rfl) (hc.ok w0) (plan := [0, 1, 2, 3, 4, 5, 6, 7, 8, 9, 10]) (by kernel_rfl) (by kernel_rfl) (by kernel_rfl) ?_
       obtain ⟨v85, e92, hF⟩ := obind_some hF
       refine WD.b 1 (some 85) v85 h_90 (load_cell (P := Try.prog) (h := h_90) (t := 25) (by kernel_rfl) e92) ?_
       replace hF := obind_some hF; obtain ⟨v86, e93, hF⟩ := hF
       replace hF := obind_some hF; obtain ⟨t86, c94, hF⟩ := hF
       have c94 := avInt_some c94
       subst c94
       refine WD.b 1 (some 86) (.int .i64 t86) h_90 (load_cell (P := Try.prog) (h := h_90) (t := 3) (by kernel_rfl) e93) ?_
       obtain ⟨t87, e95, hF⟩ := obind_some hF
       refine WD.b 0 (some 87) t87 h_90 (nil_chk (h := h_90) e95) ?_
       obtain ⟨t88, e96, hF⟩ := obind_some hF
       refine WD.b 0 (some 88) t88 h_90 (field_ptr (P := Try.prog) (h := h_90) (s := 92) (f := 1) (by kernel_rfl) e96) ?_
       obtain ⟨t89, e97, hF⟩ := obind_some hF
       refine WD.b 0 (some 89) t89 h_90 (index_arr (P := Try.prog) (h := h_90) (t := 90) (e' := 3) (k := .i64) (by kernel_rfl) (by kernel_rfl) (by kernel_rfl) e97) ?_
       replace hF := obind_some hF; obtain ⟨v90, e98, hF⟩ := hF
       replace hF := obind_some hF; obtain ⟨t90, c99, hF⟩ := hF
       have c99 := avInt_some c99
       subst c99
       refine WD.b 1 (some 90) (.int .i64 t90) h_90 (load_cell (P := Try.prog) (h := h_90) (t := 3) (by kernel_rfl) e98) ?_
       obtain ⟨t91, e100, hF⟩ := lett_some hF
       refine WD.val (d := (some 91)) (v := .int .i64 t91) (h' := h_90) (by kernel_rfl) (by kernel_rfl) (val_of (AV.int .i64) e100 (by kernel_rfl)) (k := 0) (by kernel_rfl) (fun e => absurd e (by decide)) (by decide) ?_
       obtain ⟨t92, e101, hF⟩ := obind_some hF
       refine WD.b 0 (some 92) t92 h_90 (nil_chk (h := h_90) e101) ?_
       obtain ⟨t93, e102, hF⟩ := obind_some hF
       refine WD.b 0 (some 93) t93 h_90 (field_ptr (P := Try.prog) (h := h_90) (s := 92) (f := 1) (by kernel_rfl) e102) ?_
       obtain ⟨t94, e103, hF⟩ := obind_some hF
       refine WD.b 0 (some 94) t94 h_90 (index_arr (P := Try.prog) (h := h_90) (t := 90) (e' := 3) (k := .i64) (by kernel_rfl) (by kernel_rfl) (by kernel_rfl) e103) ?_
       obtain ⟨h_104, e105, hF⟩ := obind_some hF
       refine WD.eff (h' := h_104) (by kernel_rfl) (by kernel_rfl) (Eq.trans (by kernel_rfl) (store_row (P := Try.prog) (h := h_90) (t := 3) (v := (.int .i64 t91)) (by kernel_rfl) (by kernel_rfl) e105)) (k := 2) (by kernel_rfl) (fun _ => (by kernel_rfl)) (by decide) ?_
       refine WD.nil ?_
       refine gW [(2, v2), (6, (newP h_15)), (9, (newP h_59))] (n91 ?_)
       refine oG fun n106 => ?_
       refine W.draw (by kernel_rfl) (hc.ok w0) (plan := [0, 1, 2, 3, 4, 5, 6, 7, 8, 9]) (by kernel_rfl) (by kernel_rfl) (by kernel_rfl) ?_
       obtain ⟨v95, e107, hF⟩ := obind_some hF
       refine WD.b 1 (some 95) v95 h_104 (load_cell (P := Try.prog) (h := h_104) (t := 25) (by kernel_rfl) e107) ?_
       obtain ⟨v96, e108, hF⟩ := obind_some hF
       refine WD.b 1 (some 96) v96 h_104 (load_cell (P := Try.prog) (h := h_104) (t := 25) (by kernel_rfl) e108) ?_
       obtain ⟨t97, e109, hF⟩ := obind_some hF
       refine WD.b 1 (some 97) (.agg t97) h_104 (load_row (P := Try.prog) (h := h_104) (t := 89) (by kernel_rfl) (by kernel_rfl) e109) ?_
       replace hF := obind_some hF; obtain ⟨v98, e110, hF⟩ := hF
       replace hF := obind_some hF; obtain ⟨t98, c111, hF⟩ := hF
       have c111 := avInt_some c111
       subst c111
       refine WD.b 1 (some 98) (.int .i64 t98) h_104 (load_cell (P := Try.prog) (h := h_104) (t := 3) (by kernel_rfl) e110) ?_
       obtain ⟨t99, e112, hF⟩ := obind_some hF
       refine WD.b 0 (some 99) t99 h_104 (nil_chk (h := h_104) e112) ?_
       obtain ⟨t100, e113, hF⟩ := obind_some hF
       refine WD.b 0 (some 100) t100 h_104 (field_ptr (P := Try.prog) (h := h_104) (s := 92) (f := 2) (by kernel_rfl) e113) ?_
       obtain ⟨h_114, e115, hF⟩ := obind_some hF
       obtain ⟨k116, hF⟩ := chk_some hF
       refine WD.eff (h' := h_114) (by kernel_rfl) (by kernel_rfl) (Eq.trans (by kernel_rfl) (store_row (P := Try.prog) (h := h_104) (t := 89) (v := (.agg t97)) (by kernel_rfl) (by kernel_rfl) e115)) (k := 2) (by kernel_rfl) (fun _ => (Eq.trans (by kernel_rfl) k116)) (by decide) ?_
       obtain ⟨t101, e117, hF⟩ := obind_some hF
       refine WD.b 0 (some 101) t101 h_114 (nil_chk (h := h_114) e117) ?_
       obtain ⟨t102, e118, hF⟩ := obind_some hF
       refine WD.b 0 (some 102) t102 h_114 (field_ptr (P := Try.prog) (h := h_114) (s := 92) (f := 3) (by kernel_rfl) e118) ?_
       obtain ⟨h_119, e120, hF⟩ := obind_some hF
       refine WD.eff (h' := h_119) (by kernel_rfl) (by kernel_rfl) (Eq.trans (by kernel_rfl) (store_row (P := Try.prog) (h := h_114) (t := 3) (v := (.int .i64 t98)) (by kernel_rfl) (by kernel_rfl) e120)) (k := 2) (by kernel_rfl) (fun _ => (by kernel_rfl)) (by decide) ?_
       refine WD.nil ?_
       refine gW [] (n106 ?_)
       refine oG fun n121 => W.r ?_
       refine oA 4 (.int .i64 0) ?_
       refine oV [(4, .int .i64 0)] (n121 (oY ?_))
       exact lZ hF [.tmp 4] [.int .i64 0] (rT res_nil)
      cases t79 with
      | true =>
       refine oT hF fun hF => ?_
       refine W.draw (by kernel_rfl) (hc.ok w0) (plan := [0, 1, 2, 3, 4, 5]) (by kernel_rfl) (by kernel_rfl) (by kernel_rfl) ?_
       obtain ⟨v80, e122, hF⟩ := obind_some hF
       refine WD.b 1 (some 80) v80 h_84 (load_cell (P := Try.prog) (h := h_84) (t := 25) (by kernel_rfl) e122) ?_
       replace hF := obind_some hF; obtain ⟨v81, e123, hF⟩ := hF
       replace hF := obind_some hF; obtain ⟨t81, c124, hF⟩ := hF
       have c124 := avInt_some c124
       subst c124
       refine WD.b 1 (some 81) (.int .i64 t81) h_84 (load_cell (P := Try.prog) (h := h_84) (t := 3) (by kernel_rfl) e123) ?_
       obtain ⟨t82, e125, hF⟩ := obind_some hF
       refine WD.b 0 (some 82) t82 h_84 (nil_chk (h := h_84) e125) ?_
       obtain ⟨t83, e126, hF⟩ := obind_some hF
       refine WD.b 0 (some 83) t83 h_84 (field_ptr (P := Try.prog) (h := h_84) (s := 92) (f := 1) (by kernel_rfl) e126) ?_
       obtain ⟨t84, e127, hF⟩ := obind_some hF
       refine WD.b 0 (some 84) t84 h_84 (index_arr (P := Try.prog) (h := h_84) (t := 90) (e' := 3) (k := .i64) (by kernel_rfl) (by kernel_rfl) (by kernel_rfl) e127) ?_
       obtain ⟨h_128, e129, hF⟩ := obind_some hF
       refine WD.eff (h' := h_128) (by kernel_rfl) (by kernel_rfl) (Eq.trans (by kernel_rfl) (store_row (P := Try.prog) (h := h_84) (t := 3) (v := (.int .i64 0)) (by kernel_rfl) (by kernel_rfl) e129)) (k := 2) (by kernel_rfl) (fun _ => (by kernel_rfl)) (by decide) ?_
       refine WD.nil ?_
       refine gW [(2, v2), (6, (newP h_15)), (9, (newP h_59))] ?_
       exact gW _ (J89 _ hF)
      | false =>
       refine oU hF fun hF => ?_
       refine oZ ?_
       exact gW _ (J89 _ hF)
     refine W.blockK (by kernel_rfl) (fun K82 n82 s82 o82 q82 p82 => ?_)
     refine W.loopK (by kernel_rfl) (fun I130 K130 b130 n130 e130 q130 p130 => ?_)
     have L130 : ∀ (m : Nat) (t61 : Int) (h_131 : AHeap), vote_Box_Write_L0 call v2 t60 k83 m t61 h_131 = some (rR, hR) → Go w0 m0 (Func.ntmps Try.f11) I130 [(2, v2), (6, (newP h_15)), (9, (newP h_59)), (10, (newP h_65)), (60, .agg t60), (61, .int .i64 t61)] [] h_131 := by
      intro m
      induction m with
      | zero => intro t61 h_131 hF; cases hF
      | succ m ih130 =>
       intro t61 h_131 hF
       rw [vote_Box_Write_L0_s] at hF; unfold vote_Box_Write_L0b at hF
       refine b130 ?_
       refine oG fun n132 => W.r ?_
       refine oB 62 hF fun t62 hF => ?_
       refine oV [(2, v2), (6, (newP h_15)), (9, (newP h_59)), (10, (newP h_65)), (60, .agg t60), (61, .int .i64 t61), (62, .bool t62)] (n132 ?_)
       refine W.s (fun K134 n134 e134 q134 p134 => ?_)
       cases t62 with
       | true =>
        refine oT hF fun hF => ?_
        refine oZ (n134 ?_)
        refine oH fun n135 q135 => ?_
        refine W.blockK (by kernel_rfl) (fun K136 n136 s136 o136 q136 p136 => ?_)
        refine oG fun n137 => W.r ?_
        refine oK 63 hF fun v63 h_138 hF => ?_
        refine oA 13 v63 ?_
        refine oV [(2, v2), (6, (newP h_15)), (9, (newP h_59)), (10, (newP h_65)), (13, v63), (60, .agg t60), (61, .int .i64 t61)] (n137 ?_)
        refine oG fun n140 => ?_
        refine W.draw (by kernel_rfl) (hc.ok w0) (plan := [0, 1, 2, 3, 4, 5]) (by kernel_rfl) (by kernel_rfl) (by kernel_rfl) ?_
        obtain ⟨v64, e141, hF⟩ := obind_some hF
        refine WD.b 1 (some 64) v64 h_138 (load_cell (P := Try.prog) (h := h_138) (t := 25) (by kernel_rfl) e141) ?_
        refine WD.a 0 (some 65) v63 h_138 ?_
        replace hF := callN_some hF; obtain ⟨r66, h_142, e143, hF⟩ := hF
        replace hF := obind_some hF; obtain ⟨t66, c144, hF⟩ := hF
        have c144 := avInt_some c144
        subst c144
        obtain ⟨k145, hF⟩ := chk_some hF
        refine WD.dyn (d := (some 66)) (by kernel_rfl) (by kernel_rfl) (by kernel_rfl) e143 (k := 2) (by kernel_rfl) (fun _ => (Eq.trans (by kernel_rfl) k145)) (by decide) ?_
        obtain ⟨t67, e146, hF⟩ := obind_some hF
        refine WD.b 0 (some 67) t67 h_142 (nil_chk (h := h_142) e146) ?_
        obtain ⟨t68, e147, hF⟩ := obind_some hF
        refine WD.b 0 (some 68) t68 h_142 (field_ptr (P := Try.prog) (h := h_142) (s := 92) (f := 4) (by kernel_rfl) e147) ?_
        obtain ⟨h_148, e149, hF⟩ := obind_some hF
        refine WD.eff (h' := h_148) (by kernel_rfl) (by kernel_rfl) (Eq.trans (by kernel_rfl) (store_row (P := Try.prog) (h := h_142) (t := 26) (v := (.int .i64 t66)) (by kernel_rfl) (by kernel_rfl) e149)) (k := 2) (by kernel_rfl) (fun _ => (by kernel_rfl)) (by decide) ?_
        refine WD.nil ?_
        refine gW [(2, v2), (6, (newP h_15)), (9, (newP h_59)), (10, (newP h_65)), (60, .agg t60), (61, .int .i64 t61)] (n140 ?_)
        refine oG fun n150 => W.r ?_
        refine oL 69 25 hF fun v69 hF => ?_
        refine oC0 70 hF fun t70 hF => ?_
        refine oF 71 92 4 hF fun t71 hF => ?_
        refine oLi 72 26 hF fun t72 hF => ?_
        refine oB 73 hF fun t73 hF => ?_
        refine oV [(2, v2), (6, (newP h_15)), (9, (newP h_59)), (10, (newP h_65)), (60, .agg t60), (61, .int .i64 t61), (73, .bool t73)] (n150 ?_)
        cases t73 with
        | true =>
         refine oT hF fun hF => ?_
         refine oG fun n157 => W.r ?_
         refine oL 74 25 hF fun v74 hF => ?_
         refine oC0 75 hF fun t75 hF => ?_
         refine oF 76 92 4 hF fun t76 hF => ?_
         refine oLi 77 26 hF fun t77 hF => ?_
         refine oA 4 (.int .i64 t77) ?_
         refine oV [(4, .int .i64 t77)] (n157 (oY (q136 (q135 (q130 (q82 (q79 ?_)))))))
         exact lZ hF [.tmp 4] [.int .i64 t77] (rT res_nil)
        | false =>
         refine oU hF fun hF => ?_
         refine oZ (n136 (n135 (W.r ?_)))
         refine oI 78 .i64 hF fun t78 hF => ?_
         refine oA 61 (.int .i64 t78) ?_
         refine oV [(2, v2), (6, (newP h_15)), (9, (newP h_59)), (10, (newP h_65)), (60, .agg t60), (61, .int .i64 t78)] (n130 ?_)
         exact gW _ (ih130 _ _ hF)
       | false =>
        refine oU hF fun hF => ?_
        refine W.exit (by kernel_rfl) ?_
        refine e134 (e130 ?_)
        refine s82 (by kernel_rfl) ?_
        exact gW _ (J83 _ hF)
     exact gW _ (L130 _ _ _ hF)
 refine W.draw (by kernel_rfl) (hc.ok w0) (plan := [0, 1, 2, 3, 4, 5, 6, 7, 8, 9, 10]) (by kernel_rfl) (by kernel_rfl) (by kernel_rfl) ?_
 refine WD.a 0 (some 17) (.int .i64 t16) h_10 ?_
 obtain ⟨t18, e164, hF⟩ := lett_some hF
 refine WD.val (d := (some 18)) (v := .bool t18) (h' := h_10) (by kernel_rfl) (by kernel_rfl) (val_of AV.bool e164 (by kernel_rfl)) (k := 0) (by kernel_rfl) (fun e => absurd e (by decide)) (by decide) ?_
 refine WD.a 0 (some 19) (.bool t18) h_10 ?_
 cases t18 with
 | true =>
  replace hF := ifB_t hF
  refine oD 1 (some 20) ?_
  refine oD 1 (some 21) ?_
  refine oD 0 (some 22) ?_
  refine oD 0 (some 23) ?_
  refine oD 0 (some 24) ?_
  refine oD 1 (some 25) ?_
  refine oD 0 (some 26) ?_
  refine WD.a 0 (some 27) (.bool true) h_10 ?_
  refine WD.nil ?_
  exact gW _ (J14 _ _ hF)
 | false =>
  replace hF := ifB_f hF
  obtain ⟨t20, e165, hF⟩ := obind_some hF
  refine WD.b 1 (some 20) (.agg t20) h_10 (load_row (P := Try.prog) (h := h_10) (t := 31) (by kernel_rfl) (by kernel_rfl) e165) ?_
  obtain ⟨v21, e166, hF⟩ := obind_some hF
  refine WD.b 1 (some 21) v21 h_10 (load_cell (P := Try.prog) (h := h_10) (t := 25) (by kernel_rfl) e166) ?_
  obtain ⟨t22, e167, hF⟩ := obind_some hF
  refine WD.b 0 (some 22) t22 h_10 (nil_chk (h := h_10) e167) ?_
  obtain ⟨t23, e168, hF⟩ := obind_some hF
  refine WD.b 0 (some 23) t23 h_10 (field_ptr (P := Try.prog) (h := h_10) (s := 92) (f := 2) (by kernel_rfl) e168) ?_
  obtain ⟨t24, e169, hF⟩ := obind_some hF
  refine WD.b 0 (some 24) t24 h_10 (field_ptr (P := Try.prog) (h := h_10) (s := 89) (f := 1) (by kernel_rfl) e169) ?_
  obtain ⟨t25, e170, hF⟩ := obind_some hF
  refine WD.b 1 (some 25) (.agg t25) h_10 (load_row (P := Try.prog) (h := h_10) (t := 31) (by kernel_rfl) (by kernel_rfl) e170) ?_
  obtain ⟨t26, e171, hF⟩ := obind_some hF
  refine WD.b 0 (some 26) (.bool t26) h_10 (eq_other (P := Try.prog) (h := h_10) (t := 31) (lit := false) (by kernel_rfl) e171) ?_
  refine WD.a 0 (some 27) (.bool t26) h_10 ?_
  refine WD.nil ?_
  exact gW _ (J14 _ _ hF)
noncomputable def vote_Box_refuses (call : CallF) (_ : Nat) (t0 : AV) (t1 : List AV) (h : AHeap) : R :=
 outK (opBox h 31 (some (.agg t1))) fun v3 h_2 =>
 outK (opBin Try.prog h_2 .eql 25 true (some t0) (some AV.nilp)) fun v7 h_6 =>
 obind (avBool v7) fun t7 =>
 ifB t7
 (
  some (.ret (.int .i64 1), h_6))
 (
  obind (nilC t0) fun t9 =>
  obind (fldP 7 t9) fun t10 =>
  obind (ldCell h_6 t10) fun v11 =>
  obind (avInt .i64 v11) fun t11 =>
  lett ((t11 : Int) != 0) fun (t12 : Bool) =>
  ifB t12
  (
   obind (nilC t0) fun t14 =>
   obind (fldP 7 t14) fun t15 =>
   obind (ldCell h_6 t15) fun v16 =>
   obind (avInt .i64 v16) fun t16 =>
   some (.ret (.int .i64 t16), h_6))
  (
   obind (ldRow h_6 2 v3) fun t17 =>
   callN (call 17 [.agg t17] h_6) fun r18 h_25 =>
   obind (avInt .i64 r18) fun t18 =>
   lett ((t18 : Int) != 0) fun (t20 : Bool) =>
   ifB t20
   (
    some (.ret (.int .i64 t18), h_25))
   (
    obind (ldRow h_25 2 v3) fun t22 =>
    obind (nilC t0) fun t24 =>
    obind (fldP 3 t24) fun t25 =>
    obind (fldP 1 t25) fun t26 =>
    obind (ldRow h_25 2 t26) fun t27 =>
    callN (call 56 [.agg t22, .agg t27] h_25) fun r28 h_38 =>
    obind (avBool r28) fun t28 =>
    lett (!t28) fun (t29 : Bool) =>
    ifB t29
    (
     some (.ret (.int .i64 5), h_38))
    (
     some (.ret (.int .i64 0), h_38)))))
set_option maxHeartbeats 4000000 in
set_option maxRecDepth 20000 in
theorem vote_Box_refuses_ok {call : CallF} (hc : SaysAll Try.prog call) {n : Nat} {t0 : AV} {t1 : List AV} {h : AHeap} {rR : ARes} {hR : AHeap} (hF : vote_Box_refuses call n t0 t1 h = some (rR, hR)) : Says Try.prog 31 [t0, .agg t1] h rR hR := by
 unfold vote_Box_refuses at hF
 refine sO Try.func31 fun w0 m0 => ?_
 refine wW [(0, t0), (1, .agg t1)] ?_
 refine oG fun n1 => W.r ?_
 refine oK 3 hF fun v3 h_2 hF => ?_
 refine oA 4 (.int .i64 0) ?_
 refine oV [(0, t0), (3, v3)] (n1 ?_)
 refine oH fun n4 q4 => ?_
 refine oG fun n5 => W.r ?_
 refine oA 6 t0 ?_
 replace hF := outK_some hF; obtain ⟨v7, h_6, e7, hF⟩ := hF
 replace hF := obind_some hF; obtain ⟨t7, c8, hF⟩ := hF
 have c8 := avBool_some c8
 subst c8
 refine WL.b (some 7) (.bool t7) h_6 e7 ?_
 refine oV [(0, t0), (3, v3), (7, .bool t7)] (n5 ?_)
 cases t7 with
 | true =>
  refine oT hF fun hF => ?_
  refine oG fun n9 => W.r ?_
  refine oA 4 (.int .i64 1) ?_
  refine oV [(4, .int .i64 1)] (n9 (oY (q4 ?_)))
  exact lZ hF [.tmp 4] [.int .i64 1] (rT res_nil)
 | false =>
  refine oU hF fun hF => ?_
  refine oZ (n4 ?_)
  refine oH fun n10 q10 => ?_
  refine oG fun n11 => W.r ?_
  refine oA 8 t0 ?_
  refine oC0 9 hF fun t9 hF => ?_
  refine oF 10 92 4 hF fun t10 hF => ?_
  refine oLi 11 26 hF fun t11 hF => ?_
  refine oB 12 hF fun t12 hF => ?_
  refine oV [(0, t0), (3, v3), (12, .bool t12)] (n11 ?_)
  cases t12 with
  | true =>
   refine oT hF fun hF => ?_
   refine oG fun n17 => W.r ?_
   refine oA 13 t0 ?_
   refine oC0 14 hF fun t14 hF => ?_
   refine oF 15 92 4 hF fun t15 hF => ?_
   refine oLi 16 26 hF fun t16 hF => ?_
   refine oA 4 (.int .i64 t16) ?_
   refine oV [(4, .int .i64 t16)] (n17 (oY (q10 ?_)))
   exact lZ hF [.tmp 4] [.int .i64 t16] (rT res_nil)
  | false =>
   refine oU hF fun hF => ?_
   refine oZ (n10 ?_)
   refine oH fun n22 q22 => ?_
   refine oG fun n23 => W.r ?_
   refine oR 17 31 hF fun t17 hF => ?_
   refine oCi hc 18 hF fun t18 h_25 hF => ?_
   refine oA 5 (.int .i64 t18) ?_
   refine oV [(0, t0), (3, v3), (5, .int .i64 t18)] (n23 ?_)
   refine oG fun n28 => W.r ?_
   refine oA 19 (.int .i64 t18) ?_
   refine oB 20 hF fun t20 hF => ?_
   refine oV [(0, t0), (3, v3), (5, .int .i64 t18), (20, .bool t20)] (n28 ?_)
   cases t20 with
   | true =>
    refine oT hF fun hF => ?_
    refine oG fun n30 => W.r ?_
    refine oA 21 (.int .i64 t18) ?_
    refine oA 4 (.int .i64 t18) ?_
    refine oV [(4, .int .i64 t18)] (n30 (oY (q22 ?_)))
    exact lZ hF [.tmp 4] [.int .i64 t18] (rT res_nil)
   | false =>
    refine oU hF fun hF => ?_
    refine oZ (n22 ?_)
    refine oH fun n31 q31 => ?_
    refine oG fun n32 => ?_
    refine W.draw (by kernel_rfl) (hc.ok w0) (plan := [0, 1, 2, 3, 4, 5, 6, 7]) (by kernel_rfl) (by kernel_rfl) (by kernel_rfl) ?_
    obtain ⟨t22, e33, hF⟩ := obind_some hF
    refine WD.b 1 (some 22) (.agg t22) h_25 (load_row (P := Try.prog) (h := h_25) (t := 31) (by kernel_rfl) (by kernel_rfl) e33) ?_
    refine WD.a 0 (some 23) t0 h_25 ?_
    obtain ⟨t24, e34, hF⟩ := obind_some hF
    refine WD.b 0 (some 24) t24 h_25 (nil_chk (h := h_25) e34) ?_
    obtain ⟨t25, e35, hF⟩ := obind_some hF
    refine WD.b 0 (some 25) t25 h_25 (field_ptr (P := Try.prog) (h := h_25) (s := 92) (f := 2) (by kernel_rfl) e35) ?_
    obtain ⟨t26, e36, hF⟩ := obind_some hF
    refine WD.b 0 (some 26) t26 h_25 (field_ptr (P := Try.prog) (h := h_25) (s := 89) (f := 1) (by kernel_rfl) e36) ?_
    obtain ⟨t27, e37, hF⟩ := obind_some hF
    refine WD.b 1 (some 27) (.agg t27) h_25 (load_row (P := Try.prog) (h := h_25) (t := 31) (by kernel_rfl) (by kernel_rfl) e37) ?_
    replace hF := callN_some hF; obtain ⟨r28, h_38, e39, hF⟩ := hF
    replace hF := obind_some hF; obtain ⟨t28, c40, hF⟩ := hF
    have c40 := avBool_some c40
    subst c40
    refine WD.call (d := (some 28)) (by kernel_rfl) (by kernel_rfl) (by kernel_rfl) e39 (k := 2) (by kernel_rfl) (fun _ => (by kernel_rfl)) (by decide) ?_
    obtain ⟨t29, e41, hF⟩ := lett_some hF
    refine WD.val (d := (some 29)) (v := .bool t29) (h' := h_38) (by kernel_rfl) (by kernel_rfl) (val_of AV.bool e41 (by kernel_rfl)) (k := 0) (by kernel_rfl) (fun e => absurd e (by decide)) (by decide) ?_
    refine WD.nil ?_
    refine gW [(29, .bool t29)] (n32 ?_)
    cases t29 with
    | true =>
     refine oT hF fun hF => ?_
     refine oG fun n42 => W.r ?_
     refine oA 4 (.int .i64 5) ?_
     refine oV [(4, .int .i64 5)] (n42 (oY (q31 ?_)))
     exact lZ hF [.tmp 4] [.int .i64 5] (rT res_nil)
    | false =>
     refine oU hF fun hF => ?_
     refine oZ (n31 ?_)
     refine oG fun n43 => W.r ?_
     refine oA 4 (.int .i64 0) ?_
     refine oV [(4, .int .i64 0)] (n43 (oY ?_))
     exact lZ hF [.tmp 4] [.int .i64 0] (rT res_nil)
noncomputable def vote_Box_place (_ : CallF) (_ : Nat) (t0 : AV) (h : AHeap) : R :=
 obind (nilC t0) fun t6 =>
 obind (fldP 3 t6) fun t7 =>
 obind (fldP 0 t7) fun t8 =>
 obind (ldCell h t8) fun v9 =>
 obind (avInt .i64 v9) fun t9 =>
 lett ((t9 : Int) == 0) fun (t10 : Bool) =>
 ifB t10
 (
  some (.ret (.tup [.int .i64 0, .bool true]), h))
 (
  obind (nilC t0) fun t14 =>
  obind (fldP 6 t14) fun t15 =>
  obind (ldCell h t15) fun v16 =>
  obind (avInt .i64 v16) fun t16 =>
  obind (nilC t0) fun t17 =>
  obind (fldP 1 t17) fun t18 =>
  obind (idxA 2 1 t18 t16) fun t19 =>
  obind (ldCell h t19) fun v20 =>
  obind (avInt .i64 v20) fun t20 =>
  lett (decide (t20 < 8)) fun (t21 : Bool) =>
  ifB t21
  (
   obind (nilC t0) fun t23 =>
   obind (fldP 6 t23) fun t24 =>
   obind (ldCell h t24) fun v25 =>
   obind (avInt .i64 v25) fun t25 =>
   some (.ret (.tup [.int .i64 t25, .bool false]), h))
  (
   obind (nilC t0) fun t28 =>
   obind (fldP 6 t28) fun t29 =>
   obind (ldCell h t29) fun v30 =>
   obind (avInt .i64 v30) fun t30 =>
   lett ((t30 : Int) == 0) fun (t31 : Bool) =>
   ifB t31
   (
    some (.ret (.tup [.int .i64 1, .bool true]), h))
   (
    some (.ret (.tup [.int .i64 0, .bool true]), h))))
set_option maxHeartbeats 4000000 in
set_option maxRecDepth 20000 in
theorem vote_Box_place_ok {call : CallF} (hc : SaysAll Try.prog call) {n : Nat} {t0 : AV} {h : AHeap} {rR : ARes} {hR : AHeap} (hF : vote_Box_place call n t0 h = some (rR, hR)) : Says Try.prog 33 [t0] h rR hR := by
 unfold vote_Box_place at hF
 refine sO Try.func33 fun w0 m0 => ?_
 refine wW [(0, t0)] ?_
 refine oG fun n1 => W.r ?_
 refine oA 2 (.int .i64 0) ?_
 refine oA 3 (.bool false) ?_
 refine oV [(0, t0)] (n1 ?_)
 refine oH fun n2 q2 => ?_
 refine W.blockK (by kernel_rfl) (fun K3 n3 s3 o3 q3 p3 => ?_)
 refine oG fun n4 => W.r ?_
 refine oA 5 t0 ?_
 refine oC0 6 hF fun t6 hF => ?_
 refine oF 7 92 2 hF fun t7 hF => ?_
 refine oF 8 89 0 hF fun t8 hF => ?_
 refine oLi 9 3 hF fun t9 hF => ?_
 refine oB 10 hF fun t10 hF => ?_
 refine oA 4 (.bool t10) ?_
 refine oV [(0, t0), (4, .bool t10)] (n4 ?_)
 cases t10 with
 | true =>
  refine oT hF fun hF => ?_
  refine oG fun n11 => W.r ?_
  refine oA 2 (.int .i64 0) ?_
  refine oA 3 (.bool true) ?_
  refine oV [(2, .int .i64 0), (3, .bool true)] (n11 (oY (q3 (q2 ?_))))
  exact lZ hF [.tmp 2, .tmp 3] [.int .i64 0, .bool true] (rT (rT res_nil))
 | false =>
  refine oU hF fun hF => ?_
  refine oG fun n12 => ?_
  refine W.draw (by kernel_rfl) (hc.ok w0) (plan := [0, 1, 2, 3, 4, 5, 6, 7, 8, 9, 10]) (by kernel_rfl) (by kernel_rfl) (by kernel_rfl) ?_
  refine WD.a 0 (some 12) t0 h ?_
  refine WD.a 0 (some 13) t0 h ?_
  obtain ⟨t14, e13, hF⟩ := obind_some hF
  refine WD.b 0 (some 14) t14 h (nil_chk (h := h) e13) ?_
  obtain ⟨t15, e14, hF⟩ := obind_some hF
  refine WD.b 0 (some 15) t15 h (field_ptr (P := Try.prog) (h := h) (s := 92) (f := 3) (by kernel_rfl) e14) ?_
  replace hF := obind_some hF; obtain ⟨v16, e15, hF⟩ := hF
  replace hF := obind_some hF; obtain ⟨t16, c16, hF⟩ := hF
  have c16 := avInt_some c16
  subst c16
  refine WD.b 1 (some 16) (.int .i64 t16) h (load_cell (P := Try.prog) (h := h) (t := 3) (by kernel_rfl) e15) ?_
  obtain ⟨t17, e17, hF⟩ := obind_some hF
  refine WD.b 0 (some 17) t17 h (nil_chk (h := h) e17) ?_
  obtain ⟨t18, e18, hF⟩ := obind_some hF
  refine WD.b 0 (some 18) t18 h (field_ptr (P := Try.prog) (h := h) (s := 92) (f := 1) (by kernel_rfl) e18) ?_
  obtain ⟨t19, e19, hF⟩ := obind_some hF
  refine WD.b 0 (some 19) t19 h (index_arr (P := Try.prog) (h := h) (t := 90) (e' := 3) (k := .i64) (by kernel_rfl) (by kernel_rfl) (by kernel_rfl) e19) ?_
  replace hF := obind_some hF; obtain ⟨v20, e20, hF⟩ := hF
  replace hF := obind_some hF; obtain ⟨t20, c21, hF⟩ := hF
  have c21 := avInt_some c21
  subst c21
  refine WD.b 1 (some 20) (.int .i64 t20) h (load_cell (P := Try.prog) (h := h) (t := 3) (by kernel_rfl) e20) ?_
  obtain ⟨t21, e22, hF⟩ := lett_some hF
  refine WD.val (d := (some 21)) (v := .bool t21) (h' := h) (by kernel_rfl) (by kernel_rfl) (val_of AV.bool e22 (by kernel_rfl)) (k := 0) (by kernel_rfl) (fun e => absurd e (by decide)) (by decide) ?_
  refine WD.a 0 (some 11) (.bool t21) h ?_
  refine WD.nil ?_
  refine gW [(0, t0), (11, .bool t21)] (n12 ?_)
  cases t21 with
  | true =>
   refine oT hF fun hF => ?_
   refine oG fun n23 => W.r ?_
   refine oA 22 t0 ?_
   refine oC0 23 hF fun t23 hF => ?_
   refine oF 24 92 3 hF fun t24 hF => ?_
   refine oLi 25 3 hF fun t25 hF => ?_
   refine oA 2 (.int .i64 t25) ?_
   refine oA 3 (.bool false) ?_
   refine oV [(2, .int .i64 t25), (3, .bool false)] (n23 (oY (q3 (q2 ?_))))
   exact lZ hF [.tmp 2, .tmp 3] [.int .i64 t25, .bool false] (rT (rT res_nil))
  | false =>
   refine oU hF fun hF => ?_
   refine oG fun n28 => W.r ?_
   refine oA 27 t0 ?_
   refine oC0 28 hF fun t28 hF => ?_
   refine oF 29 92 3 hF fun t29 hF => ?_
   refine oLi 30 3 hF fun t30 hF => ?_
   refine oB 31 hF fun t31 hF => ?_
   refine oA 26 (.bool t31) ?_
   refine oV [(26, .bool t31)] (n28 ?_)
   cases t31 with
   | true =>
    refine oT hF fun hF => ?_
    refine oG fun n34 => W.r ?_
    refine oA 2 (.int .i64 1) ?_
    refine oA 3 (.bool true) ?_
    refine oV [(2, .int .i64 1), (3, .bool true)] (n34 (oY (q3 (q2 ?_))))
    exact lZ hF [.tmp 2, .tmp 3] [.int .i64 1, .bool true] (rT (rT res_nil))
   | false =>
    refine oU hF fun hF => ?_
    refine oZ (n3 (n2 ?_))
    refine oG fun n35 => W.r ?_
    refine oA 2 (.int .i64 0) ?_
    refine oA 3 (.bool true) ?_
    refine oV [(2, .int .i64 0), (3, .bool true)] (n35 (oY ?_))
    exact lZ hF [.tmp 2, .tmp 3] [.int .i64 0, .bool true] (rT (rT res_nil))
noncomputable def vote_entry_frame (call : CallF) (_ : Nat) (t0 : List AV) (h : AHeap) : R :=
 outK (opBox h 89 (some (.agg t0))) fun v1 h_2 =>
 obind (fldP 0 v1) fun t4 =>
 obind (ldCell h_2 t4) fun v5 =>
 obind (avInt .i64 v5) fun t5 =>
 lett (IntKind.u64.wrap t5) fun (t6 : Int) =>
 obind (fldP 1 v1) fun t8 =>
 obind (fldP 0 t8) fun t9 =>
 obind (ldCell h_2 t9) fun v10 =>
 obind (avInt .i64 v10) fun t10 =>
 lett (IntKind.u64.wrap t10) fun (t11 : Int) =>
 obind (fldP 1 v1) fun t14 =>
 obind (fldP 1 t14) fun t15 =>
 obind (ldCell h_2 t15) fun v16 =>
 obind (avInt .i64 v16) fun t16 =>
 lett (IntKind.i64.wrap (t16 + 1)) fun (t17 : Int) =>
 lett (IntKind.u8.wrap t17) fun (t18 : Int) =>
 callN (call 58 [.int .u64 t6] h_2) fun r7 h_20 =>
 obind (avStr r7) fun t7 =>
 chk (reLoad Try.prog h_20 3 t15 (.int .i64 t16) && (reLoad Try.prog h_20 3 t9 (.int .i64 t10) && (true && true))) <|
 callN (call 58 [.int .u64 t11] h_20) fun r12 h_24 =>
 obind (avStr r12) fun t12 =>
 chk (reLoad Try.prog h_24 3 t15 (.int .i64 t16) && (true && (true && true))) <|
 obind (addS t7 t12) fun t13 =>
 callN (call 59 [.int .u8 t18] h_24) fun r19 h_29 =>
 obind (avStr r19) fun t19 =>
 obind (addS t13 t19) fun t20 =>
 callN (call 57 [strA t20] h_29) fun r21 h_33 =>
 obind (extT 0 r21) fun v22 =>
 obind (avStr v22) fun t22 =>
 obind (extT 1 r21) fun v23 =>
 obind (avInt .i64 v23) fun t23 =>
 some (.ret (.tup [strA t22, .int .i64 t23]), h_33)
set_option maxHeartbeats 4000000 in
set_option maxRecDepth 20000 in
theorem vote_entry_frame_ok {call : CallF} (hc : SaysAll Try.prog call) {n : Nat} {t0 : List AV} {h : AHeap} {rR : ARes} {hR : AHeap} (hF : vote_entry_frame call n t0 h = some (rR, hR)) : Says Try.prog 32 [.agg t0] h rR hR := by
 unfold vote_entry_frame at hF
 refine sO Try.func32 fun w0 m0 => ?_
 refine wW [(0, .agg t0)] ?_
 refine oG fun n1 => W.r ?_
 refine oK 1 hF fun v1 h_2 hF => ?_
 refine oA 2 (strA ([] : Bytes)) ?_
 refine oA 3 (.int .i64 0) ?_
 refine oV [(1, v1)] (n1 ?_)
 refine oG fun n4 => ?_
 refine W.draw (by kernel_rfl) (hc.ok w0) (plan := [0, 1, 2, 4, 5, 6, 7, 10, 11, 12, 13, 14, 3, 8, 9, 15, 16, 17, 18, 19, 20, 21]) (by kernel_rfl) (by kernel_rfl) (by kernel_rfl) ?_
 obtain ⟨t4, e5, hF⟩ := obind_some hF
 refine WD.b 0 (some 4) t4 h_2 (field_ptr (P := Try.prog) (h := h_2) (s := 89) (f := 0) (by kernel_rfl) e5) ?_
 replace hF := obind_some hF; obtain ⟨v5, e6, hF⟩ := hF
 replace hF := obind_some hF; obtain ⟨t5, c7, hF⟩ := hF
 have c7 := avInt_some c7
 subst c7
 refine WD.b 1 (some 5) (.int .i64 t5) h_2 (load_cell (P := Try.prog) (h := h_2) (t := 3) (by kernel_rfl) e6) ?_
 obtain ⟨t6, e8, hF⟩ := lett_some hF
 refine WD.val (d := (some 6)) (v := .int .u64 t6) (h' := h_2) (by kernel_rfl) (by kernel_rfl) (val_of (AV.int .u64) e8 (by kernel_rfl)) (k := 0) (by kernel_rfl) (fun e => absurd e (by decide)) (by decide) ?_
 obtain ⟨t8, e9, hF⟩ := obind_some hF
 refine WD.b 0 (some 8) t8 h_2 (field_ptr (P := Try.prog) (h := h_2) (s := 89) (f := 1) (by kernel_rfl) e9) ?_
 obtain ⟨t9, e10, hF⟩ := obind_some hF
 refine WD.b 0 (some 9) t9 h_2 (field_ptr (P := Try.prog) (h := h_2) (s := 31) (f := 0) (by kernel_rfl) e10) ?_
 replace hF := obind_some hF; obtain ⟨v10, e11, hF⟩ := hF
 replace hF := obind_some hF; obtain ⟨t10, c12, hF⟩ := hF
 have c12 := avInt_some c12
 subst c12
 refine WD.b 1 (some 10) (.int .i64 t10) h_2 (load_cell (P := Try.prog) (h := h_2) (t := 3) (by kernel_rfl) e11) ?_
 obtain ⟨t11, e13, hF⟩ := lett_some hF
 refine WD.val (d := (some 11)) (v := .int .u64 t11) (h' := h_2) (by kernel_rfl) (by kernel_rfl) (val_of (AV.int .u64) e13 (by kernel_rfl)) (k := 0) (by kernel_rfl) (fun e => absurd e (by decide)) (by decide) ?_
 obtain ⟨t14, e14, hF⟩ := obind_some hF
 refine WD.b 0 (some 14) t14 h_2 (field_ptr (P := Try.prog) (h := h_2) (s := 89) (f := 1) (by kernel_rfl) e14) ?_
 obtain ⟨t15, e15, hF⟩ := obind_some hF
 refine WD.b 0 (some 15) t15 h_2 (field_ptr (P := Try.prog) (h := h_2) (s := 31) (f := 1) (by kernel_rfl) e15) ?_
 replace hF := obind_some hF; obtain ⟨v16, e16, hF⟩ := hF
 replace hF := obind_some hF; obtain ⟨t16, c17, hF⟩ := hF
 have c17 := avInt_some c17
 subst c17
 refine WD.b 1 (some 16) (.int .i64 t16) h_2 (load_cell (P := Try.prog) (h := h_2) (t := 3) (by kernel_rfl) e16) ?_
 obtain ⟨t17, e18, hF⟩ := lett_some hF
 refine WD.val (d := (some 17)) (v := .int .i64 t17) (h' := h_2) (by kernel_rfl) (by kernel_rfl) (val_of (AV.int .i64) e18 (by kernel_rfl)) (k := 0) (by kernel_rfl) (fun e => absurd e (by decide)) (by decide) ?_
 obtain ⟨t18, e19, hF⟩ := lett_some hF
 refine WD.val (d := (some 18)) (v := .int .u8 t18) (h' := h_2) (by kernel_rfl) (by kernel_rfl) (val_of (AV.int .u8) e19 (by kernel_rfl)) (k := 0) (by kernel_rfl) (fun e => absurd e (by decide)) (by decide) ?_
 replace hF := callN_some hF; obtain ⟨r7, h_20, e21, hF⟩ := hF
 replace hF := obind_some hF; obtain ⟨t7, c22, hF⟩ := hF
 have c22 := avStr_some c22
 subst c22
 obtain ⟨k23, hF⟩ := chk_some hF
 refine WD.call (d := (some 7)) (by kernel_rfl) (by kernel_rfl) (by kernel_rfl) e21 (k := 2) (by kernel_rfl) (fun _ => (Eq.trans (by kernel_rfl) k23)) (by decide) ?_
 replace hF := callN_some hF; obtain ⟨r12, h_24, e25, hF⟩ := hF
 replace hF := obind_some hF; obtain ⟨t12, c26, hF⟩ := hF
 have c26 := avStr_some c26
 subst c26
 obtain ⟨k27, hF⟩ := chk_some hF
 refine WD.call (d := (some 12)) (by kernel_rfl) (by kernel_rfl) (by kernel_rfl) e25 (k := 2) (by kernel_rfl) (fun _ => (Eq.trans (by kernel_rfl) k27)) (by decide) ?_
 obtain ⟨t13, e28, hF⟩ := obind_some hF
 refine WD.b 0 (some 13) (strA t13) h_24 (add_str (P := Try.prog) (h := h_24) (t := 9) (lit := false) e28) ?_
 replace hF := callN_some hF; obtain ⟨r19, h_29, e30, hF⟩ := hF
 replace hF := obind_some hF; obtain ⟨t19, c31, hF⟩ := hF
 have c31 := avStr_some c31
 subst c31
 refine WD.call (d := (some 19)) (by kernel_rfl) (by kernel_rfl) (by kernel_rfl) e30 (k := 2) (by kernel_rfl) (fun _ => (by kernel_rfl)) (by decide) ?_
 obtain ⟨t20, e32, hF⟩ := obind_some hF
 refine WD.b 0 (some 20) (strA t20) h_29 (add_str (P := Try.prog) (h := h_29) (t := 9) (lit := false) e32) ?_
 obtain ⟨r21, h_33, e34, hF⟩ := callN_some hF
 refine WD.call (d := (some 21)) (by kernel_rfl) (by kernel_rfl) (by kernel_rfl) e34 (k := 2) (by kernel_rfl) (fun _ => (by kernel_rfl)) (by decide) ?_
 replace hF := obind_some hF; obtain ⟨v22, e35, hF⟩ := hF
 replace hF := obind_some hF; obtain ⟨t22, c36, hF⟩ := hF
 have c36 := avStr_some c36
 subst c36
 refine WD.b 0 (some 22) (strA t22) h_33 (extract_tup (h := h_33) e35) ?_
 replace hF := obind_some hF; obtain ⟨v23, e37, hF⟩ := hF
 replace hF := obind_some hF; obtain ⟨t23, c38, hF⟩ := hF
 have c38 := avInt_some c38
 subst c38
 refine WD.b 0 (some 23) (.int .i64 t23) h_33 (extract_tup (h := h_33) e37) ?_
 refine WD.a 0 (some 2) (strA t22) h_33 ?_
 refine WD.a 0 (some 3) (.int .i64 t23) h_33 ?_
 refine WD.nil ?_
 refine gW [(2, strA t22), (3, .int .i64 t23)] (n4 (oY ?_))
 exact lZ hF [.tmp 2, .tmp 3] [strA t22, .int .i64 t23] (rT (rT res_nil))
noncomputable def vote_Box_Write_1 (call : CallF) (_ : Nat) (t0 : AV) (t1 : AV) (t2 : AV) (h : AHeap) : R :=
 lett (fun (t15 : Bool) (h_5 : AHeap) =>
  ifB t15
  (
   some (.ret (.int .i64 0), h_5))
  (
   obind (ldCell h_5 t1) fun v16 =>
   obind (nilC v16) fun t17 =>
   obind (fldP 0 t17) fun t18 =>
   obind (ldCell h_5 t18) fun v19 =>
   obind (ldCell h_5 t2) fun v20 =>
   obind (avInt .i64 v20) fun t20 =>
   callN (call 36 [v19, .int .i64 t20] h_5) fun r21 h_14 =>
   obind (avInt .i64 r21) fun t21 =>
   some (.ret (.int .i64 t21), h_14))) fun k4 =>
 obind (ldCell h t0) fun v4 =>
 obind (avBool v4) fun t4 =>
 lett (!t4) fun (t5 : Bool) =>
 ifB t5
 (
  k4 true h)
 (
  obind (ldCell h t1) fun v7 =>
  obind (nilC v7) fun t8 =>
  obind (fldP 0 t8) fun t9 =>
  obind (ldCell h t9) fun v10 =>
  obind (ldCell h t2) fun v12 =>
  obind (avInt .i64 v12) fun t12 =>
  callN (call 12 [v10] h) fun r11 h_26 =>
  chk (reLoad Try.prog h_26 3 t2 (.int .i64 t12) && (true && (true && (true && true)))) <|
  callN (call 35 [r11, .int .i64 t12] h_26) fun r13 h_29 =>
  obind (avBool r13) fun t13 =>
  lett (!t13) fun (t14 : Bool) =>
  k4 t14 h_29)
set_option maxHeartbeats 4000000 in
set_option maxRecDepth 20000 in
theorem vote_Box_Write_1_ok {call : CallF} (hc : SaysAll Try.prog call) {n : Nat} {t0 : AV} {t1 : AV} {t2 : AV} {h : AHeap} {rR : ARes} {hR : AHeap} (hF : vote_Box_Write_1 call n t0 t1 t2 h = some (rR, hR)) : Says Try.prog 34 [t0, t1, t2] h rR hR := by
 unfold vote_Box_Write_1 at hF
 refine sO Try.func34 fun w0 m0 => ?_
 refine wW [(0, t0), (1, t1), (2, t2)] ?_
 refine oG fun n1 => W.r ?_
 refine oA 3 (.int .i64 0) ?_
 refine oV [(0, t0), (1, t1), (2, t2)] (n1 ?_)
 refine oH fun n2 q2 => ?_
 refine W.s (fun K3 n3 e3 q3 p3 => ?_)
 obtain ⟨k4, e4, hF⟩ := lett_some hF
 have J4 : ∀ (t15 : Bool) (h_5 : AHeap), k4 t15 h_5 = some (rR, hR) → Go w0 m0 (Func.ntmps Try.f34) (K3 .normal) [(1, t1), (2, t2), (15, .bool t15)] [] h_5 := by
  intro t15 h_5 hF
  rw [e4] at hF
  refine n3 ?_
  cases t15 with
  | true =>
   refine oT hF fun hF => ?_
   refine oG fun n6 => W.r ?_
   refine oA 3 (.int .i64 0) ?_
   refine oV [(3, .int .i64 0)] (n6 (oY (q2 ?_)))
   exact lZ hF [.tmp 3] [.int .i64 0] (rT res_nil)
  | false =>
   refine oU hF fun hF => ?_
   refine oZ (n2 ?_)
   refine oG fun n7 => ?_
   refine W.draw (by kernel_rfl) (hc.ok w0) (plan := [0, 1, 2, 3, 4, 5, 6]) (by kernel_rfl) (by kernel_rfl) (by kernel_rfl) ?_
   obtain ⟨v16, e8, hF⟩ := obind_some hF
   refine WD.b 1 (some 16) v16 h_5 (load_cell (P := Try.prog) (h := h_5) (t := 25) (by kernel_rfl) e8) ?_
   obtain ⟨t17, e9, hF⟩ := obind_some hF
   refine WD.b 0 (some 17) t17 h_5 (nil_chk (h := h_5) e9) ?_
   obtain ⟨t18, e10, hF⟩ := obind_some hF
   refine WD.b 0 (some 18) t18 h_5 (field_ptr (P := Try.prog) (h := h_5) (s := 92) (f := 0) (by kernel_rfl) e10) ?_
   obtain ⟨v19, e11, hF⟩ := obind_some hF
   refine WD.b 1 (some 19) v19 h_5 (load_cell (P := Try.prog) (h := h_5) (t := 23) (by kernel_rfl) e11) ?_
   replace hF := obind_some hF; obtain ⟨v20, e12, hF⟩ := hF
   replace hF := obind_some hF; obtain ⟨t20, c13, hF⟩ := hF
   have c13 := avInt_some c13
   subst c13
   refine WD.b 1 (some 20) (.int .i64 t20) h_5 (load_cell (P := Try.prog) (h := h_5) (t := 3) (by kernel_rfl) e12) ?_
   replace hF := callN_some hF; obtain ⟨r21, h_14, e15, hF⟩ := hF
   replace hF := obind_some hF; obtain ⟨t21, c16, hF⟩ := hF
   have c16 := avInt_some c16
   subst c16
   refine WD.call (d := (some 21)) (by kernel_rfl) (by kernel_rfl) (by kernel_rfl) e15 (k := 2) (by kernel_rfl) (fun _ => (by kernel_rfl)) (by decide) ?_
   refine WD.a 0 (some 3) (.int .i64 t21) h_14 ?_
   refine WD.nil ?_
   refine gW [(3, .int .i64 t21)] (n7 (oY ?_))
   exact lZ hF [.tmp 3] [.int .i64 t21] (rT res_nil)
 refine W.draw (by kernel_rfl) (hc.ok w0) (plan := [0, 1, 2, 3, 4, 5, 6, 8, 7, 9, 10, 11]) (by kernel_rfl) (by kernel_rfl) (by kernel_rfl) ?_
 replace hF := obind_some hF; obtain ⟨v4, e17, hF⟩ := hF
 replace hF := obind_some hF; obtain ⟨t4, c18, hF⟩ := hF
 have c18 := avBool_some c18
 subst c18
 refine WD.b 1 (some 4) (.bool t4) h (load_cell (P := Try.prog) (h := h) (t := 4) (by kernel_rfl) e17) ?_
 obtain ⟨t5, e19, hF⟩ := lett_some hF
 refine WD.val (d := (some 5)) (v := .bool t5) (h' := h) (by kernel_rfl) (by kernel_rfl) (val_of AV.bool e19 (by kernel_rfl)) (k := 0) (by kernel_rfl) (fun e => absurd e (by decide)) (by decide) ?_
 refine WD.a 0 (some 6) (.bool t5) h ?_
 cases t5 with
 | true =>
  replace hF := ifB_t hF
  refine oD 1 (some 7) ?_
  refine oD 0 (some 8) ?_
  refine oD 0 (some 9) ?_
  refine oD 1 (some 10) ?_
  refine oD 1 (some 12) ?_
  refine WD.not (d := (some 11)) (by kernel_rfl) (by kernel_rfl) (k := 2) (by kernel_rfl) (fun _ => (by kernel_rfl)) (by decide) ?_
  refine WD.not (d := (some 13)) (by kernel_rfl) (by kernel_rfl) (k := 2) (by kernel_rfl) (fun _ => (by kernel_rfl)) (by decide) ?_
  refine oD 0 (some 14) ?_
  refine WD.a 0 (some 15) (.bool true) h ?_
  refine WD.nil ?_
  exact gW _ (J4 _ _ hF)
 | false =>
  replace hF := ifB_f hF
  obtain ⟨v7, e20, hF⟩ := obind_some hF
  refine WD.b 1 (some 7) v7 h (load_cell (P := Try.prog) (h := h) (t := 25) (by kernel_rfl) e20) ?_
  obtain ⟨t8, e21, hF⟩ := obind_some hF
  refine WD.b 0 (some 8) t8 h (nil_chk (h := h) e21) ?_
  obtain ⟨t9, e22, hF⟩ := obind_some hF
  refine WD.b 0 (some 9) t9 h (field_ptr (P := Try.prog) (h := h) (s := 92) (f := 0) (by kernel_rfl) e22) ?_
  obtain ⟨v10, e23, hF⟩ := obind_some hF
  refine WD.b 1 (some 10) v10 h (load_cell (P := Try.prog) (h := h) (t := 23) (by kernel_rfl) e23) ?_
  replace hF := obind_some hF; obtain ⟨v12, e24, hF⟩ := hF
  replace hF := obind_some hF; obtain ⟨t12, c25, hF⟩ := hF
  have c25 := avInt_some c25
  subst c25
  refine WD.b 1 (some 12) (.int .i64 t12) h (load_cell (P := Try.prog) (h := h) (t := 3) (by kernel_rfl) e24) ?_
  obtain ⟨r11, h_26, e27, hF⟩ := callN_some hF
  obtain ⟨k28, hF⟩ := chk_some hF
  refine WD.call (d := (some 11)) (by kernel_rfl) (by kernel_rfl) (by kernel_rfl) e27 (k := 2) (by kernel_rfl) (fun _ => (Eq.trans (by kernel_rfl) k28)) (by decide) ?_
  replace hF := callN_some hF; obtain ⟨r13, h_29, e30, hF⟩ := hF
  replace hF := obind_some hF; obtain ⟨t13, c31, hF⟩ := hF
  have c31 := avBool_some c31
  subst c31
  refine WD.call (d := (some 13)) (by kernel_rfl) (by kernel_rfl) (by kernel_rfl) e30 (k := 2) (by kernel_rfl) (fun _ => (by kernel_rfl)) (by decide) ?_
  obtain ⟨t14, e32, hF⟩ := lett_some hF
  refine WD.val (d := (some 14)) (v := .bool t14) (h' := h_29) (by kernel_rfl) (by kernel_rfl) (val_of AV.bool e32 (by kernel_rfl)) (k := 0) (by kernel_rfl) (fun e => absurd e (by decide)) (by decide) ?_
  refine WD.a 0 (some 15) (.bool t14) h_29 ?_
  refine WD.nil ?_
  exact gW _ (J4 _ _ hF)
noncomputable def vote_Box_Write_2 (call : CallF) (_ : Nat) (t0 : AV) (t1 : AV) (t2 : AV) (h : AHeap) : R :=
 obind (ldCell h t0) fun v4 =>
 obind (nilC v4) fun t5 =>
 obind (fldP 0 t5) fun t6 =>
 obind (ldCell h t6) fun v7 =>
 obind (ldCell h t1) fun v8 =>
 obind (avInt .i64 v8) fun t8 =>
 obind (ldCell h t2) fun v9 =>
 obind (avStr v9) fun t9 =>
 callN (call 22 [v7, .int .i64 t8, strA t9] h) fun r10 h_11 =>
 obind (avInt .i64 r10) fun t10 =>
 some (.ret (.int .i64 t10), h_11)
set_option maxHeartbeats 4000000 in
set_option maxRecDepth 20000 in
theorem vote_Box_Write_2_ok {call : CallF} (hc : SaysAll Try.prog call) {n : Nat} {t0 : AV} {t1 : AV} {t2 : AV} {h : AHeap} {rR : ARes} {hR : AHeap} (hF : vote_Box_Write_2 call n t0 t1 t2 h = some (rR, hR)) : Says Try.prog 37 [t0, t1, t2] h rR hR := by
 unfold vote_Box_Write_2 at hF
 refine sO Try.func37 fun w0 m0 => ?_
 refine wW [(0, t0), (1, t1), (2, t2)] ?_
 refine oG fun n1 => W.r ?_
 refine oA 3 (.int .i64 0) ?_
 refine oV [(0, t0), (1, t1), (2, t2)] (n1 ?_)
 refine oG fun n2 => ?_
 refine W.draw (by kernel_rfl) (hc.ok w0) (plan := [0, 1, 2, 3, 4, 5, 6, 7]) (by kernel_rfl) (by kernel_rfl) (by kernel_rfl) ?_
 obtain ⟨v4, e3, hF⟩ := obind_some hF
 refine WD.b 1 (some 4) v4 h (load_cell (P := Try.prog) (h := h) (t := 25) (by kernel_rfl) e3) ?_
 obtain ⟨t5, e4, hF⟩ := obind_some hF
 refine WD.b 0 (some 5) t5 h (nil_chk (h := h) e4) ?_
 obtain ⟨t6, e5, hF⟩ := obind_some hF
 refine WD.b 0 (some 6) t6 h (field_ptr (P := Try.prog) (h := h) (s := 92) (f := 0) (by kernel_rfl) e5) ?_
 obtain ⟨v7, e6, hF⟩ := obind_some hF
 refine WD.b 1 (some 7) v7 h (load_cell (P := Try.prog) (h := h) (t := 23) (by kernel_rfl) e6) ?_
 replace hF := obind_some hF; obtain ⟨v8, e7, hF⟩ := hF
 replace hF := obind_some hF; obtain ⟨t8, c8, hF⟩ := hF
 have c8 := avInt_some c8
 subst c8
 refine WD.b 1 (some 8) (.int .i64 t8) h (load_cell (P := Try.prog) (h := h) (t := 3) (by kernel_rfl) e7) ?_
 replace hF := obind_some hF; obtain ⟨v9, e9, hF⟩ := hF
 replace hF := obind_some hF; obtain ⟨t9, c10, hF⟩ := hF
 have c10 := avStr_some c10
 subst c10
 refine WD.b 1 (some 9) (strA t9) h (load_cell (P := Try.prog) (h := h) (t := 9) (by kernel_rfl) e9) ?_
 replace hF := callN_some hF; obtain ⟨r10, h_11, e12, hF⟩ := hF
 replace hF := obind_some hF; obtain ⟨t10, c13, hF⟩ := hF
 have c13 := avInt_some c13
 subst c13
 refine WD.call (d := (some 10)) (by kernel_rfl) (by kernel_rfl) (by kernel_rfl) e12 (k := 2) (by kernel_rfl) (fun _ => (by kernel_rfl)) (by decide) ?_
 refine WD.a 0 (some 3) (.int .i64 t10) h_11 ?_
 refine WD.nil ?_
 refine gW [(3, .int .i64 t10)] (n2 (oY ?_))
 exact lZ hF [.tmp 3] [.int .i64 t10] (rT res_nil)
noncomputable def vote_Box_Write_3 (call : CallF) (_ : Nat) (t0 : AV) (t1 : AV) (h : AHeap) : R :=
 obind (ldCell h t0) fun v3 =>
 obind (nilC v3) fun t4 =>
 obind (fldP 0 t4) fun t5 =>
 obind (ldCell h t5) fun v6 =>
 obind (ldCell h t1) fun v7 =>
 obind (avInt .i64 v7) fun t7 =>
 callN (call 39 [v6, .int .i64 t7] h) fun r8 h_9 =>
 obind (avInt .i64 r8) fun t8 =>
 some (.ret (.int .i64 t8), h_9)
set_option maxHeartbeats 4000000 in
set_option maxRecDepth 20000 in
theorem vote_Box_Write_3_ok {call : CallF} (hc : SaysAll Try.prog call) {n : Nat} {t0 : AV} {t1 : AV} {h : AHeap} {rR : ARes} {hR : AHeap} (hF : vote_Box_Write_3 call n t0 t1 h = some (rR, hR)) : Says Try.prog 38 [t0, t1] h rR hR := by
 unfold vote_Box_Write_3 at hF
 refine sO Try.func38 fun w0 m0 => ?_
 refine wW [(0, t0), (1, t1)] ?_
 refine oG fun n1 => W.r ?_
 refine oA 2 (.int .i64 0) ?_
 refine oV [(0, t0), (1, t1)] (n1 ?_)
 refine oG fun n2 => ?_
 refine W.draw (by kernel_rfl) (hc.ok w0) (plan := [0, 1, 2, 3, 4, 5, 6]) (by kernel_rfl) (by kernel_rfl) (by kernel_rfl) ?_
 obtain ⟨v3, e3, hF⟩ := obind_some hF
 refine WD.b 1 (some 3) v3 h (load_cell (P := Try.prog) (h := h) (t := 25) (by kernel_rfl) e3) ?_
 obtain ⟨t4, e4, hF⟩ := obind_some hF
 refine WD.b 0 (some 4) t4 h (nil_chk (h := h) e4) ?_
 obtain ⟨t5, e5, hF⟩ := obind_some hF
 refine WD.b 0 (some 5) t5 h (field_ptr (P := Try.prog) (h := h) (s := 92) (f := 0) (by kernel_rfl) e5) ?_
 obtain ⟨v6, e6, hF⟩ := obind_some hF
 refine WD.b 1 (some 6) v6 h (load_cell (P := Try.prog) (h := h) (t := 23) (by kernel_rfl) e6) ?_
 replace hF := obind_some hF; obtain ⟨v7, e7, hF⟩ := hF
 replace hF := obind_some hF; obtain ⟨t7, c8, hF⟩ := hF
 have c8 := avInt_some c8
 subst c8
 refine WD.b 1 (some 7) (.int .i64 t7) h (load_cell (P := Try.prog) (h := h) (t := 3) (by kernel_rfl) e7) ?_
 replace hF := callN_some hF; obtain ⟨r8, h_9, e10, hF⟩ := hF
 replace hF := obind_some hF; obtain ⟨t8, c11, hF⟩ := hF
 have c11 := avInt_some c11
 subst c11
 refine WD.call (d := (some 8)) (by kernel_rfl) (by kernel_rfl) (by kernel_rfl) e10 (k := 2) (by kernel_rfl) (fun _ => (by kernel_rfl)) (by decide) ?_
 refine WD.a 0 (some 2) (.int .i64 t8) h_9 ?_
 refine WD.nil ?_
 refine gW [(2, .int .i64 t8)] (n2 (oY ?_))
 exact lZ hF [.tmp 2] [.int .i64 t8] (rT res_nil)
noncomputable def vote_mayFollow (_ : CallF) (_ : Nat) (t0 : List AV) (t1 : List AV) (h : AHeap) : R :=
 outK (opBox h 31 (some (.agg t0))) fun v2 h_2 =>
 outK (opBox h_2 31 (some (.agg t1))) fun v3 h_4 =>
 obind (fldP 0 v2) fun t5 =>
 obind (ldCell h_4 t5) fun v6 =>
 obind (avInt .i64 v6) fun t6 =>
 obind (fldP 0 v3) fun t7 =>
 obind (ldCell h_4 t7) fun v8 =>
 obind (avInt .i64 v8) fun t8 =>
 lett ((t6 : Int) != t8) fun (t9 : Bool) =>
 ifB t9
 (
  obind (fldP 0 v2) fun t10 =>
  obind (ldCell h_4 t10) fun v11 =>
  obind (avInt .i64 v11) fun t11 =>
  obind (fldP 0 v3) fun t12 =>
  obind (ldCell h_4 t12) fun v13 =>
  obind (avInt .i64 v13) fun t13 =>
  lett (decide (t11 > t13)) fun (t14 : Bool) =>
  some (.ret (.bool t14), h_4))
 (
  obind (fldP 1 v3) fun t15 =>
  obind (ldCell h_4 t15) fun v16 =>
  obind (avInt .i64 v16) fun t16 =>
  lett ((t16 : Int) == (-1)) fun (t17 : Bool) =>
  lett (fun (t24 : Bool) (h_28 : AHeap) =>
   some (.ret (.bool t24), h_28)) fun j24 =>
  ifB t17
  (
   j24 true h_4)
  (
   obind (fldP 1 v2) fun t19 =>
   obind (ldCell h_4 t19) fun v20 =>
   obind (avInt .i64 v20) fun t20 =>
   obind (fldP 1 v3) fun t21 =>
   obind (ldCell h_4 t21) fun v22 =>
   obind (avInt .i64 v22) fun t22 =>
   lett ((t20 : Int) == t22) fun (t23 : Bool) =>
   j24 t23 h_4))
set_option maxHeartbeats 4000000 in
set_option maxRecDepth 20000 in
theorem vote_mayFollow_ok {call : CallF} (_ : SaysAll Try.prog call) {n : Nat} {t0 : List AV} {t1 : List AV} {h : AHeap} {rR : ARes} {hR : AHeap} (hF : vote_mayFollow call n t0 t1 h = some (rR, hR)) : Says Try.prog 56 [.agg t0, .agg t1] h rR hR := by
 unfold vote_mayFollow at hF
 refine sO Try.func56 fun w0 m0 => ?_
 refine wW [(0, .agg t0), (1, .agg t1)] ?_
 refine oG fun n1 => W.r ?_
 refine oK 2 hF fun v2 h_2 hF => ?_
 refine oK 3 hF fun v3 h_4 hF => ?_
 refine oA 4 (.bool false) ?_
 refine oV [(2, v2), (3, v3)] (n1 ?_)
 refine oH fun n6 q6 => ?_
 refine oG fun n7 => W.r ?_
 refine oF 5 31 0 hF fun t5 hF => ?_
 refine oLi 6 3 hF fun t6 hF => ?_
 refine oF 7 31 0 hF fun t7 hF => ?_
 refine oLi 8 3 hF fun t8 hF => ?_
 refine oB 9 hF fun t9 hF => ?_
 refine oV [(2, v2), (3, v3), (9, .bool t9)] (n7 ?_)
 cases t9 with
 | true =>
  refine oT hF fun hF => ?_
  refine oG fun n15 => W.r ?_
  refine oF 10 31 0 hF fun t10 hF => ?_
  refine oLi 11 3 hF fun t11 hF => ?_
  refine oF 12 31 0 hF fun t12 hF => ?_
  refine oLi 13 3 hF fun t13 hF => ?_
  refine oB 14 hF fun t14 hF => ?_
  refine oA 4 (.bool t14) ?_
  refine oV [(4, .bool t14)] (n15 (oY (q6 ?_)))
  exact lZ hF [.tmp 4] [.bool t14] (rT res_nil)
 | false =>
  refine oU hF fun hF => ?_
  refine oZ (n6 ?_)
  refine W.s (fun K23 n23 e23 q23 p23 => ?_)
  refine W.r ?_
  refine oF 15 31 1 hF fun t15 hF => ?_
  refine oLi 16 3 hF fun t16 hF => ?_
  refine oB 17 hF fun t17 hF => ?_
  refine oA 18 (.bool t17) ?_
  obtain ⟨j24, e29, hF⟩ := lett_some hF
  have J30 : ∀ (t24 : Bool) (h_28 : AHeap), j24 t24 h_28 = some (rR, hR) → WL Try.prog w0 m0 (Func.ntmps Try.f56) (Code.ops (Code.p1 (Code.p2 (Code.p2 (codeOf Try.f56))))) 10 K23 [(24, .bool t24)] [] h_28 := by
   intro t24 h_28 hF
   rw [e29] at hF
   refine oA 4 (.bool t24) ?_
   refine oV [(4, .bool t24)] (n23 (oY ?_))
   exact lZ hF [.tmp 4] [.bool t24] (rT res_nil)
  cases t17 with
  | true =>
   replace hF := ifB_t hF
   refine WL.o (some 19) ?_
   refine WL.o (some 20) ?_
   refine WL.o (some 21) ?_
   refine WL.o (some 22) ?_
   refine WL.o (some 23) ?_
   refine oA 24 (.bool true) ?_
   exact lW _ (J30 _ _ hF)
  | false =>
   replace hF := ifB_f hF
   refine oF 19 31 1 hF fun t19 hF => ?_
   refine oLi 20 3 hF fun t20 hF => ?_
   refine oF 21 31 1 hF fun t21 hF => ?_
   refine oLi 22 3 hF fun t22 hF => ?_
   refine oB 23 hF fun t23 hF => ?_
   refine oA 24 (.bool t23) ?_
   exact lW _ (J30 _ _ hF)
noncomputable def vote_readEntry (call : CallF) (_ : Nat) (t0 : Bytes) (h : AHeap) : R :=
 lett (newH h 89 [.int .i64 0, .int .i64 0, .int .i64 0]) fun h_2 =>
 callN (call 70 [strA t0] h_2) fun r9 h_5 =>
 callN (call 71 [r9] h_5) fun r11 h_8 =>
 obind (avInt .u64 r11) fun t11 =>
 callN (call 71 [r9] h_8) fun r13 h_11 =>
 obind (avInt .u64 r13) fun t13 =>
 callN (call 72 [r9] h_11) fun r15 h_14 =>
 obind (avInt .u8 r15) fun t15 =>
 callN (call 73 [r9] h_14) fun r17 h_19 =>
 obind (avAgg r17) fun t17 =>
 obind (partF 0 t17) fun v18 =>
 obind (avInt .i64 v18) fun t18 =>
 lett ((t18 : Int) != 0) fun (t19 : Bool) =>
 lett (fun (t23 : Bool) (h_25 : AHeap) =>
  lett (fun (t27 : Bool) (h_28 : AHeap) =>
   lett (fun (t31 : Bool) (h_31 : AHeap) =>
    lett (fun (t35 : Bool) (h_34 : AHeap) =>
     ifB t35
     (
      obind (stRow h_34 3 ([.int .i64 0, .int .i64 0, .int .i64 0] : List AV) (newP h)) fun h_38 =>
      obind (ldRow h_38 3 (newP h)) fun w2 =>
      some (.ret (.tup [.agg w2, .bool false]), h_38))
     (
      lett (IntKind.i64.wrap t11) fun (t38 : Int) =>
      lett (IntKind.i64.wrap t13) fun (t40 : Int) =>
      lett (IntKind.i64.wrap t15) fun (t42 : Int) =>
      lett (IntKind.i64.wrap (t42 - 1)) fun (t43 : Int) =>
      obind (bldS Try.prog 89 [(0, .int .i64 t38), (1, .agg ([.int .i64 t40, .int .i64 t43] : List AV))]) fun t45 =>
      obind (stRow h_34 3 t45 (newP h)) fun h_47 =>
      obind (ldRow h_47 3 (newP h)) fun w2_50 =>
      some (.ret (.tup [.agg w2_50, .bool true]), h_47))) fun j35 =>
    ifB t31
    (
     j35 true h_31)
    (
     lett (decide (t15 > 3)) fun (t34 : Bool) =>
     j35 t34 h_31)) fun j31 =>
   ifB t27
   (
    j31 true h_28)
   (
    lett (decide (t13 > 1099511627776)) fun (t30 : Bool) =>
    j31 t30 h_28)) fun j27 =>
  ifB t23
  (
   j27 true h_25)
  (
   lett (decide (t11 > 4611686018427387904)) fun (t26 : Bool) =>
   j27 t26 h_25)) fun j23 =>
 ifB t19
 (
  j23 true h_19)
 (
  lett (decide (t11 < 1)) fun (t22 : Bool) =>
  j23 t22 h_19)
set_option maxHeartbeats 4000000 in
set_option maxRecDepth 20000 in
theorem vote_readEntry_ok {call : CallF} (hc : SaysAll Try.prog call) {n : Nat} {t0 : Bytes} {h : AHeap} {rR : ARes} {hR : AHeap} (hF : vote_readEntry call n t0 h = some (rR, hR)) : Says Try.prog 54 [strA t0] h rR hR := by
 unfold vote_readEntry at hF
 refine sO Try.func54 fun w0 m0 => ?_
 refine wW [(0, strA t0)] ?_
 refine oG fun n1 => W.r ?_
 refine oN 2 hF fun h_2 hF => ?_
 refine oA 3 (.bool false) ?_
 refine oV [(0, strA t0), (2, (newP h))] (n1 ?_)
 refine oG fun n4 => W.r ?_
 refine oA 8 (strA t0) ?_
 refine oC hc (some 9) hF fun r9 h_5 hF => ?_
 refine oA 4 r9 ?_
 refine oV [(2, (newP h)), (4, r9)] (n4 ?_)
 refine oG fun n7 => W.r ?_
 refine oA 10 r9 ?_
 refine oCi hc 11 hF fun t11 h_8 hF => ?_
 refine oA 12 r9 ?_
 refine oCi hc 13 hF fun t13 h_11 hF => ?_
 refine oA 14 r9 ?_
 refine oCi hc 15 hF fun t15 h_14 hF => ?_
 refine oA 5 (.int .u64 t11) ?_
 refine oA 6 (.int .u64 t13) ?_
 refine oA 7 (.int .u8 t15) ?_
 refine oV [(2, (newP h)), (4, r9), (5, .int .u64 t11), (6, .int .u64 t13), (7, .int .u8 t15)] (n7 ?_)
 refine oH fun n17 q17 => ?_
 refine W.s (fun K18 n18 e18 q18 p18 => ?_)
 refine W.r ?_
 refine oA 16 r9 ?_
 refine oCa hc 17 hF fun t17 h_19 hF => ?_
 replace hF := obind_some hF; obtain ⟨v18, e22, hF⟩ := hF
 replace hF := obind_some hF; obtain ⟨t18, c23, hF⟩ := hF
 have c23 := avInt_some c23
 subst c23
 refine WL.b (some 18) (.int .i64 t18) h_19 (field_one (P := Try.prog) (h := h_19) (t := 145) (f := 0) (by kernel_rfl) e22) ?_
 refine oB 19 hF fun t19 hF => ?_
 refine oA 20 (.bool t19) ?_
 obtain ⟨j23, e26, hF⟩ := lett_some hF
 have J27 : ∀ (t23 : Bool) (h_25 : AHeap), j23 t23 h_25 = some (rR, hR) → WL Try.prog w0 m0 (Func.ntmps Try.f54) (Code.ops (Code.p1 (Code.p1 (Code.p2 (Code.p2 (Code.p2 (codeOf Try.f54))))))) 8 K18 [(2, (newP h)), (5, .int .u64 t11), (6, .int .u64 t13), (7, .int .u8 t15), (23, .bool t23)] [] h_25 := by
  intro t23 h_25 hF
  rw [e26] at hF
  refine oA 24 (.bool t23) ?_
  obtain ⟨j27, e29, hF⟩ := lett_some hF
  have J30 : ∀ (t27 : Bool) (h_28 : AHeap), j27 t27 h_28 = some (rR, hR) → WL Try.prog w0 m0 (Func.ntmps Try.f54) (Code.ops (Code.p1 (Code.p1 (Code.p2 (Code.p2 (Code.p2 (codeOf Try.f54))))))) 12 K18 [(2, (newP h)), (5, .int .u64 t11), (6, .int .u64 t13), (7, .int .u8 t15), (27, .bool t27)] [] h_28 := by
   intro t27 h_28 hF
   rw [e29] at hF
   refine oA 28 (.bool t27) ?_
   obtain ⟨j31, e32, hF⟩ := lett_some hF
   have J33 : ∀ (t31 : Bool) (h_31 : AHeap), j31 t31 h_31 = some (rR, hR) → WL Try.prog w0 m0 (Func.ntmps Try.f54) (Code.ops (Code.p1 (Code.p1 (Code.p2 (Code.p2 (Code.p2 (codeOf Try.f54))))))) 16 K18 [(2, (newP h)), (5, .int .u64 t11), (6, .int .u64 t13), (7, .int .u8 t15), (31, .bool t31)] [] h_31 := by
    intro t31 h_31 hF
    rw [e32] at hF
    refine oA 32 (.bool t31) ?_
    obtain ⟨j35, e35, hF⟩ := lett_some hF
    have J36 : ∀ (t35 : Bool) (h_34 : AHeap), j35 t35 h_34 = some (rR, hR) → WL Try.prog w0 m0 (Func.ntmps Try.f54) (Code.ops (Code.p1 (Code.p1 (Code.p2 (Code.p2 (Code.p2 (codeOf Try.f54))))))) 20 K18 [(2, (newP h)), (5, .int .u64 t11), (6, .int .u64 t13), (7, .int .u8 t15), (35, .bool t35)] [] h_34 := by
     intro t35 h_34 hF
     rw [e35] at hF
     refine oV [(2, (newP h)), (5, .int .u64 t11), (6, .int .u64 t13), (7, .int .u8 t15), (35, .bool t35)] (n18 ?_)
     cases t35 with
     | true =>
      refine oT hF fun hF => ?_
      refine oG fun n37 => W.r ?_
      refine oA 36 (.agg ([.int .i64 0, .int .i64 0, .int .i64 0] : List AV)) ?_
      refine oW 89 (.agg ([.int .i64 0, .int .i64 0, .int .i64 0] : List AV)) hF fun h_38 hF => ?_
      refine oA 3 (.bool false) ?_
      refine oV [(2, (newP h)), (3, .bool false)] (n37 (oY (q17 ?_)))
      obtain ⟨w2, e40, hF⟩ := obind_some hF
      exact lZ hF [.cell 2 89, .tmp 3] [.agg w2, .bool false] (rY e40 (rT res_nil))
     | false =>
      refine oU hF fun hF => ?_
      refine oZ (n17 ?_)
      refine oG fun n41 => W.r ?_
      refine oA 37 (.int .u64 t11) ?_
      refine oI 38 .i64 hF fun t38 hF => ?_
      refine oA 39 (.int .u64 t13) ?_
      refine oI 40 .i64 hF fun t40 hF => ?_
      refine oA 41 (.int .u8 t15) ?_
      refine oI 42 .i64 hF fun t42 hF => ?_
      refine oI 43 .i64 hF fun t43 hF => ?_
      refine oA 44 (.agg ([.int .i64 t40, .int .i64 t43] : List AV)) ?_
      obtain ⟨t45, e46, hF⟩ := obind_some hF
      refine WL.val (d := (some 45)) (v := .agg t45) (h' := h_34) (by kernel_rfl) (by kernel_rfl) (bld_ok (by kernel_rfl) e46) ?_
      refine oW 89 (.agg t45) hF fun h_47 hF => ?_
      refine oA 3 (.bool true) ?_
      refine oV [(2, (newP h)), (3, .bool true)] (n41 (oY ?_))
      obtain ⟨w2_50, e49, hF⟩ := obind_some hF
      exact lZ hF [.cell 2 89, .tmp 3] [.agg w2_50, .bool true] (rY e49 (rT res_nil))
    cases t31 with
    | true =>
     replace hF := ifB_t hF
     refine WL.o (some 33) ?_
     refine WL.o (some 34) ?_
     refine oA 35 (.bool true) ?_
     exact lW _ (J36 _ _ hF)
    | false =>
     replace hF := ifB_f hF
     refine oA 33 (.int .u8 t15) ?_
     refine oB 34 hF fun t34 hF => ?_
     refine oA 35 (.bool t34) ?_
     exact lW _ (J36 _ _ hF)
   cases t27 with
   | true =>
    replace hF := ifB_t hF
    refine WL.o (some 29) ?_
    refine WL.o (some 30) ?_
    refine oA 31 (.bool true) ?_
    exact lW _ (J33 _ _ hF)
   | false =>
    replace hF := ifB_f hF
    refine oA 29 (.int .u64 t13) ?_
    refine oB 30 hF fun t30 hF => ?_
    refine oA 31 (.bool t30) ?_
    exact lW _ (J33 _ _ hF)
  cases t23 with
  | true =>
   replace hF := ifB_t hF
   refine WL.o (some 25) ?_
   refine WL.o (some 26) ?_
   refine oA 27 (.bool true) ?_
   exact lW _ (J30 _ _ hF)
  | false =>
   replace hF := ifB_f hF
   refine oA 25 (.int .u64 t11) ?_
   refine oB 26 hF fun t26 hF => ?_
   refine oA 27 (.bool t26) ?_
   exact lW _ (J30 _ _ hF)
 cases t19 with
 | true =>
  replace hF := ifB_t hF
  refine WL.o (some 21) ?_
  refine WL.o (some 22) ?_
  refine oA 23 (.bool true) ?_
  exact lW _ (J27 _ _ hF)
 | false =>
  replace hF := ifB_f hF
  refine oA 21 (.int .u64 t11) ?_
  refine oB 22 hF fun t22 hF => ?_
  refine oA 23 (.bool t22) ?_
  exact lW _ (J27 _ _ hF)
noncomputable def vote_content_mend (call : CallF) (_ : Nat) (t0 : List AV) (t1 : AV) (t2 : Int) (h : AHeap) : R :=
 outK (opBox h 85 (some (.agg t0))) fun v3 h_2 =>
 obind (fldP 1 v3) fun t8 =>
 obind (ldCell h_2 t8) fun v9 =>
 obind (avInt .i64 v9) fun t9 =>
 obind (fldP 2 v3) fun t10 =>
 obind (ldCell h_2 t10) fun v11 =>
 obind (avInt .i64 v11) fun t11 =>
 lett ((t9 : Int) == t11) fun (t12 : Bool) =>
 ifB t12
 (
  some (.ret (.int .i64 0), h_2))
 (
  obind (fldP 1 v3) fun t15 =>
  obind (ldCell h_2 t15) fun v16 =>
  obind (avInt .i64 v16) fun t16 =>
  callN (call 55 [t1, .int .i64 t2, .int .i64 t16] h_2) fun r17 h_19 =>
  obind (avInt .i64 r17) fun t17 =>
  lett ((t17 : Int) != 0) fun (t19 : Bool) =>
  ifB t19
  (
   some (.ret (.int .i64 t17), h_19))
  (
   callN (call 39 [t1, .int .i64 t2] h_19) fun r23 h_26 =>
   obind (avInt .i64 r23) fun t23 =>
   some (.ret (.int .i64 t23), h_26)))
set_option maxHeartbeats 4000000 in
set_option maxRecDepth 20000 in
theorem vote_content_mend_ok {call : CallF} (hc : SaysAll Try.prog call) {n : Nat} {t0 : List AV} {t1 : AV} {t2 : Int} {h : AHeap} {rR : ARes} {hR : AHeap} (hF : vote_content_mend call n t0 t1 t2 h = some (rR, hR)) : Says Try.prog 30 [.agg t0, t1, .int .i64 t2] h rR hR := by
 unfold vote_content_mend at hF
 refine sO Try.func30 fun w0 m0 => ?_
 refine wW [(0, .agg t0), (1, t1), (2, .int .i64 t2)] ?_
 refine oG fun n1 => W.r ?_
 refine oK 3 hF fun v3 h_2 hF => ?_
 refine oA 6 (.int .i64 0) ?_
 refine oV [(1, t1), (2, .int .i64 t2), (3, v3)] (n1 ?_)
 refine oH fun n4 q4 => ?_
 refine oG fun n5 => W.r ?_
 refine oF 8 85 1 hF fun t8 hF => ?_
 refine oLi 9 3 hF fun t9 hF => ?_
 refine oF 10 85 2 hF fun t10 hF => ?_
 refine oLi 11 3 hF fun t11 hF => ?_
 refine oB 12 hF fun t12 hF => ?_
 refine oV [(1, t1), (2, .int .i64 t2), (3, v3), (12, .bool t12)] (n5 ?_)
 cases t12 with
 | true =>
  refine oT hF fun hF => ?_
  refine oG fun n13 => W.r ?_
  refine oA 6 (.int .i64 0) ?_
  refine oV [(6, .int .i64 0)] (n13 (oY (q4 ?_)))
  exact lZ hF [.tmp 6] [.int .i64 0] (rT res_nil)
 | false =>
  refine oU hF fun hF => ?_
  refine oZ (n4 ?_)
  refine oH fun n14 q14 => ?_
  refine oG fun n15 => W.r ?_
  refine oA 13 t1 ?_
  refine oA 14 (.int .i64 t2) ?_
  refine oF 15 85 1 hF fun t15 hF => ?_
  refine oLi 16 3 hF fun t16 hF => ?_
  refine oCi hc 17 hF fun t17 h_19 hF => ?_
  refine oA 7 (.int .i64 t17) ?_
  refine oV [(1, t1), (2, .int .i64 t2), (7, .int .i64 t17)] (n15 ?_)
  refine oG fun n22 => W.r ?_
  refine oA 18 (.int .i64 t17) ?_
  refine oB 19 hF fun t19 hF => ?_
  refine oV [(1, t1), (2, .int .i64 t2), (7, .int .i64 t17), (19, .bool t19)] (n22 ?_)
  cases t19 with
  | true =>
   refine oT hF fun hF => ?_
   refine oG fun n24 => W.r ?_
   refine oA 20 (.int .i64 t17) ?_
   refine oA 6 (.int .i64 t17) ?_
   refine oV [(6, .int .i64 t17)] (n24 (oY (q14 ?_)))
   exact lZ hF [.tmp 6] [.int .i64 t17] (rT res_nil)
  | false =>
   refine oU hF fun hF => ?_
   refine oZ (n14 ?_)
   refine oG fun n25 => W.r ?_
   refine oA 21 t1 ?_
   refine oA 22 (.int .i64 t2) ?_
   refine oCi hc 23 hF fun t23 h_26 hF => ?_
   refine oA 6 (.int .i64 t23) ?_
   refine oV [(6, .int .i64 t23)] (n25 (oY ?_))
   exact lZ hF [.tmp 6] [.int .i64 t23] (rT res_nil)
noncomputable def slices_Contains___int_int_ (call : CallF) (_ : Nat) (t0 : AV) (t1 : Int) (h : AHeap) : R :=
 callN (call 60 [t0, .int .i64 t1] h) fun r7 h_3 =>
 obind (avInt .i64 r7) fun t7 =>
 lett (decide (t7 ≥ 0)) fun (t8 : Bool) =>
 some (.ret (.bool t8), h_3)
set_option maxHeartbeats 4000000 in
set_option maxRecDepth 20000 in
theorem slices_Contains___int_int__ok {call : CallF} (hc : SaysAll Try.prog call) {n : Nat} {t0 : AV} {t1 : Int} {h : AHeap} {rR : ARes} {hR : AHeap} (hF : slices_Contains___int_int_ call n t0 t1 h = some (rR, hR)) : Says Try.prog 35 [t0, .int .i64 t1] h rR hR := by
 unfold slices_Contains___int_int_ at hF
 refine sO Try.func35 fun w0 m0 => ?_
 refine wW [(0, t0), (1, .int .i64 t1)] ?_
 refine oG fun n1 => W.r ?_
 refine oA 4 (.bool false) ?_
 refine oV [(0, t0), (1, .int .i64 t1)] (n1 ?_)
 refine oG fun n2 => W.r ?_
 refine oA 5 t0 ?_
 refine oA 6 (.int .i64 t1) ?_
 refine oCi hc 7 hF fun t7 h_3 hF => ?_
 refine oB 8 hF fun t8 hF => ?_
 refine oA 4 (.bool t8) ?_
 refine oV [(4, .bool t8)] (n2 (oY ?_))
 exact lZ hF [.tmp 4] [.bool t8] (rT res_nil)
noncomputable def slices_Index___int_int__L0b (t0 : AV) (t1 : Int) (t7 : Int) (k6 : AHeap → R) (self : Int → AHeap → R) (t8 : Int) (h_10 : AHeap) : R :=
 lett (decide (t8 < t7)) fun (t9 : Bool) =>
 ifB t9
 (
  obind (idxP 1 t0 t8) fun t14 =>
  obind (ldCell h_10 t14) fun v15 =>
  obind (avInt .i64 v15) fun t15 =>
  lett ((t1 : Int) == t15) fun (t16 : Bool) =>
  ifB t16
  (
   some (.ret (.int .i64 t8), h_10))
  (
   lett (IntKind.i64.wrap (t8 + 1)) fun (t18 : Int) =>
   self t18 h_10))
 (
  k6 h_10)
noncomputable def slices_Index___int_int__L0 (t0 : AV) (t1 : Int) (t7 : Int) (k6 : AHeap → R) : Nat → Int → AHeap → R := iterR (fun _ _ => none) (slices_Index___int_int__L0b t0 t1 t7 k6)
theorem slices_Index___int_int__L0_s (t0 : AV) (t1 : Int) (t7 : Int) (k6 : AHeap → R) (m : Nat) : slices_Index___int_int__L0 t0 t1 t7 k6 (m + 1) = slices_Index___int_int__L0b t0 t1 t7 k6 (slices_Index___int_int__L0 t0 t1 t7 k6 m) := rfl
noncomputable def slices_Index___int_int_ (_ : CallF) (n : Nat) (t0 : AV) (t1 : Int) (h : AHeap) : R :=
 obind (lenL t0) fun t7 =>
 lett (fun  (h_7 : AHeap) =>
  some (.ret (.int .i64 (-1)), h_7)) fun k6 =>
 slices_Index___int_int__L0 t0 t1 t7 k6 n 0 h
set_option maxHeartbeats 4000000 in
set_option maxRecDepth 20000 in
theorem slices_Index___int_int__ok {call : CallF} (_ : SaysAll Try.prog call) {n : Nat} {t0 : AV} {t1 : Int} {h : AHeap} {rR : ARes} {hR : AHeap} (hF : slices_Index___int_int_ call n t0 t1 h = some (rR, hR)) : Says Try.prog 60 [t0, .int .i64 t1] h rR hR := by
 unfold slices_Index___int_int_ at hF
 refine sO Try.func60 fun w0 m0 => ?_
 refine wW [(0, t0), (1, .int .i64 t1)] ?_
 refine oG fun n1 => W.r ?_
 refine oA 4 (.int .i64 0) ?_
 refine oV [(0, t0), (1, .int .i64 t1)] (n1 ?_)
 refine W.s (fun K2 n2 e2 q2 p2 => ?_)
 refine oG fun n3 => W.r ?_
 refine oA 6 t0 ?_
 refine oM 7 32 3 hF fun t7 hF => ?_
 refine oA 8 (.int .i64 0) ?_
 refine oV [(0, t0), (1, .int .i64 t1), (7, .int .i64 t7), (8, .int .i64 0)] (n3 ?_)
 obtain ⟨k6, e6, hF⟩ := lett_some hF
 have J6 : ∀  (h_7 : AHeap), k6 h_7 = some (rR, hR) → Go w0 m0 (Func.ntmps Try.f60) (K2 .normal) [] [] h_7 := by
  intro  h_7 hF
  rw [e6] at hF
  refine n2 ?_
  refine oG fun n8 => W.r ?_
  refine oA 4 (.int .i64 (-1)) ?_
  refine oV [(4, .int .i64 (-1))] (n8 (oY ?_))
  exact lZ hF [.tmp 4] [.int .i64 (-1)] (rT res_nil)
 refine W.blockK (by kernel_rfl) (fun K5 n5 s5 o5 q5 p5 => ?_)
 refine W.loopK (by kernel_rfl) (fun I9 K9 b9 n9 e9 q9 p9 => ?_)
 have L9 : ∀ (m : Nat) (t8 : Int) (h_10 : AHeap), slices_Index___int_int__L0 t0 t1 t7 k6 m t8 h_10 = some (rR, hR) → Go w0 m0 (Func.ntmps Try.f60) I9 [(0, t0), (1, .int .i64 t1), (7, .int .i64 t7), (8, .int .i64 t8)] [] h_10 := by
  intro m
  induction m with
  | zero => intro t8 h_10 hF; cases hF
  | succ m ih9 =>
   intro t8 h_10 hF
   rw [slices_Index___int_int__L0_s] at hF; unfold slices_Index___int_int__L0b at hF
   refine b9 ?_
   refine oG fun n11 => W.r ?_
   refine oB 9 hF fun t9 hF => ?_
   refine oV [(0, t0), (1, .int .i64 t1), (7, .int .i64 t7), (8, .int .i64 t8), (9, .bool t9)] (n11 ?_)
   refine W.s (fun K13 n13 e13 q13 p13 => ?_)
   cases t9 with
   | true =>
    refine oT hF fun hF => ?_
    refine oZ (n13 ?_)
    refine oH fun n14 q14 => ?_
    refine W.blockK (by kernel_rfl) (fun K15 n15 s15 o15 q15 p15 => ?_)
    refine oG fun n16 => W.r ?_
    refine oA 10 (.int .i64 t8) ?_
    refine oA 5 (.int .i64 t8) ?_
    refine oV [(0, t0), (1, .int .i64 t1), (5, .int .i64 t8), (7, .int .i64 t7), (8, .int .i64 t8)] (n16 ?_)
    refine oG fun n17 => W.r ?_
    refine oA 11 (.int .i64 t1) ?_
    refine oA 12 t0 ?_
    refine oA 13 (.int .i64 t8) ?_
    refine oP 14 32 3 .i64 hF fun t14 hF => ?_
    refine oLi 15 3 hF fun t15 hF => ?_
    refine oB 16 hF fun t16 hF => ?_
    refine oV [(0, t0), (1, .int .i64 t1), (5, .int .i64 t8), (7, .int .i64 t7), (8, .int .i64 t8), (16, .bool t16)] (n17 ?_)
    cases t16 with
    | true =>
     refine oT hF fun hF => ?_
     refine oG fun n22 => W.r ?_
     refine oA 17 (.int .i64 t8) ?_
     refine oA 4 (.int .i64 t8) ?_
     refine oV [(4, .int .i64 t8)] (n22 (oY (q15 (q14 (q9 (q5 (q2 ?_)))))))
     exact lZ hF [.tmp 4] [.int .i64 t8] (rT res_nil)
    | false =>
     refine oU hF fun hF => ?_
     refine oZ (n15 (n14 (W.r ?_)))
     refine oI 18 .i64 hF fun t18 hF => ?_
     refine oA 8 (.int .i64 t18) ?_
     refine oV [(0, t0), (1, .int .i64 t1), (7, .int .i64 t7), (8, .int .i64 t18)] (n9 ?_)
     exact gW _ (ih9 _ _ hF)
   | false =>
    refine oU hF fun hF => ?_
    refine W.exit (by kernel_rfl) ?_
    refine e13 (e9 ?_)
    refine s5 (by kernel_rfl) ?_
    exact gW _ (J6 _ hF)
 exact gW _ (L9 _ _ _ hF)
noncomputable def worldF (n : Nat) (call : CallF) : CallF := callOf [
 (9, gcF (fn0 (disk_New call n))),
 (22, fn3 Dv (Di .i64) Ds (disk_Disk_Append call n)),
 (39, fn2 Dv (Di .i64) (disk_Disk_Sync call n)),
 (55, fn3 Dv (Di .i64) (Di .i64) (disk_Disk_Cut call n)),
 (36, fn2 Dv (Di .i64) (disk_Disk_Remove call n)),
 (14, fn2 Dv (Di .i64) (disk_Disk_Power call n)),
 (28, fn1 Dv (disk_Disk_On call n)),
 (13, fn1 Dv (disk_Disk_Ops call n)),
 (45, fn2 Dv (Di .i64) (disk_Disk_refuses call n)),
 (46, fn3 Dv (Di .i64) Da (disk_Disk_change call n)),
 (61, fn2 Dv Dv (disk_content_do call n)),
 (62, fn1 Dv (disk_Disk_step call n)),
 (51, gcF (fn1 (Di .i64) (disk_isFile call n))),
 (52, fn2 Dv (Di .i64) (disk_Disk_Read call n)),
 (26, fn2 Dv (Di .i64) (disk_Disk_Sure call n)),
 (27, fn2 Dv (Di .i64) (disk_Disk_Loose call n)),
 (15, fn3 Dv Dv (Di .i64) (disk_Disk_Crash call n)),
 (40, fn3 Dv (Di .i64) (Di .i64) (disk_file_crash call n)),
 (63, fn1 Dv (disk_content_copy call n)),
 (77, fn1 Dv (slices_Clone___byte_byte_ call n)),
 (12, fn1 Dv (disk_Disk_Files call n)),
 (87, gcF (fn2 (Di .u32) Ds (sum_More call n))),
 (84, gcF (fn1 Ds (sum_Of call n))),
 (74, gcF (fn1 Ds (frame_summed call n))),
 (80, gcF (fn1 Ds (frame_whole call n))),
 (57, gcF (fn1 Ds (frame_Put call n))),
 (69, gcF (fn1 Ds (frame_Take call n))),
 (53, fn1 Ds (frame_All call n)),
 (75, gcF (fn1 (Di .u32) (wire_U32 call n))),
 (58, gcF (fn1 (Di .u64) (wire_U64 call n))),
 (59, gcF (fn1 (Di .u8) (wire_U8 call n))),
 (70, gcF (fn1 Ds (wire_New call n))),
 (76, gcF (fn2 (Di .u64) (Di .i64) (wire_number call n))),
 (79, fn1 Dv (wire_Reader_U32 call n)),
 (71, fn1 Dv (wire_Reader_U64 call n)),
 (72, fn1 Dv (wire_Reader_U8 call n)),
 (73, fn1 Dv (wire_Reader_End call n)),
 (83, fn1 Dv (wire_Reader_Fault call n)),
 (81, fn2 Dv (Di .i64) (wire_Reader_number call n)),
 (82, fn1 Dv (wire_Reader_whole call n)),
 (86, fn3 Dv (Di .i64) (Di .i64) (wire_Reader_fail call n)),
 (17, gcF (fn1 Da (vote_Check call n))),
 (16, fn1 Dv (vote_Box_Now call n)),
 (11, fn2 Dv Da (vote_Box_Write call n)),
 (31, fn2 Dv Da (vote_Box_refuses call n)),
 (33, fn1 Dv (vote_Box_place call n)),
 (32, gcF (fn1 Da (vote_entry_frame call n))),
 (34, fn3 Dv Dv Dv (vote_Box_Write_1 call n)),
 (37, fn3 Dv Dv Dv (vote_Box_Write_2 call n)),
 (38, fn2 Dv Dv (vote_Box_Write_3 call n)),
 (56, gcF (fn2 Da Da (vote_mayFollow call n))),
 (54, gcF (fn1 Ds (vote_readEntry call n))),
 (30, fn3 Da Dv (Di .i64) (vote_content_mend call n)),
 (35, fn2 Dv (Di .i64) (slices_Contains___int_int_ call n)),
 (60, fn2 Dv (Di .i64) (slices_Index___int_int_ call n))]
set_option maxRecDepth 20000 in
theorem worldF_ok (n : Nat) (call : CallF) (hc : SaysAll Try.prog call) : SaysAll Try.prog (worldF n call) := (callOf_cons (gcF_holds (fn0_holds (disk_New_ok hc)))
 (callOf_cons (fn3_holds Dv (Di .i64) Ds (disk_Disk_Append_ok hc))
 (callOf_cons (fn2_holds Dv (Di .i64) (disk_Disk_Sync_ok hc))
 (callOf_cons (fn3_holds Dv (Di .i64) (Di .i64) (disk_Disk_Cut_ok hc))
 (callOf_cons (fn2_holds Dv (Di .i64) (disk_Disk_Remove_ok hc))
 (callOf_cons (fn2_holds Dv (Di .i64) (disk_Disk_Power_ok hc))
 (callOf_cons (fn1_holds Dv (disk_Disk_On_ok hc))
 (callOf_cons (fn1_holds Dv (disk_Disk_Ops_ok hc))
 (callOf_cons (fn2_holds Dv (Di .i64) (disk_Disk_refuses_ok hc))
 (callOf_cons (fn3_holds Dv (Di .i64) Da (disk_Disk_change_ok hc))
 (callOf_cons (fn2_holds Dv Dv (disk_content_do_ok hc))
 (callOf_cons (fn1_holds Dv (disk_Disk_step_ok hc))
 (callOf_cons (gcF_holds (fn1_holds (Di .i64) (disk_isFile_ok hc)))
 (callOf_cons (fn2_holds Dv (Di .i64) (disk_Disk_Read_ok hc))
 (callOf_cons (fn2_holds Dv (Di .i64) (disk_Disk_Sure_ok hc))
 (callOf_cons (fn2_holds Dv (Di .i64) (disk_Disk_Loose_ok hc))
 (callOf_cons (fn3_holds Dv Dv (Di .i64) (disk_Disk_Crash_ok hc))
 (callOf_cons (fn3_holds Dv (Di .i64) (Di .i64) (disk_file_crash_ok hc))
 (callOf_cons (fn1_holds Dv (disk_content_copy_ok hc))
 (callOf_cons (fn1_holds Dv (slices_Clone___byte_byte__ok hc))
 (callOf_cons (fn1_holds Dv (disk_Disk_Files_ok hc))
 (callOf_cons (gcF_holds (fn2_holds (Di .u32) Ds (sum_More_ok hc)))
 (callOf_cons (gcF_holds (fn1_holds Ds (sum_Of_ok hc)))
 (callOf_cons (gcF_holds (fn1_holds Ds (frame_summed_ok hc)))
 (callOf_cons (gcF_holds (fn1_holds Ds (frame_whole_ok hc)))
 (callOf_cons (gcF_holds (fn1_holds Ds (frame_Put_ok hc)))
 (callOf_cons (gcF_holds (fn1_holds Ds (frame_Take_ok hc)))
 (callOf_cons (fn1_holds Ds (frame_All_ok hc))
 (callOf_cons (gcF_holds (fn1_holds (Di .u32) (wire_U32_ok hc)))
 (callOf_cons (gcF_holds (fn1_holds (Di .u64) (wire_U64_ok hc)))
 (callOf_cons (gcF_holds (fn1_holds (Di .u8) (wire_U8_ok hc)))
 (callOf_cons (gcF_holds (fn1_holds Ds (wire_New_ok hc)))
 (callOf_cons (gcF_holds (fn2_holds (Di .u64) (Di .i64) (wire_number_ok hc)))
 (callOf_cons (fn1_holds Dv (wire_Reader_U32_ok hc))
 (callOf_cons (fn1_holds Dv (wire_Reader_U64_ok hc))
 (callOf_cons (fn1_holds Dv (wire_Reader_U8_ok hc))
 (callOf_cons (fn1_holds Dv (wire_Reader_End_ok hc))
 (callOf_cons (fn1_holds Dv (wire_Reader_Fault_ok hc))
 (callOf_cons (fn2_holds Dv (Di .i64) (wire_Reader_number_ok hc))
 (callOf_cons (fn1_holds Dv (wire_Reader_whole_ok hc))
 (callOf_cons (fn3_holds Dv (Di .i64) (Di .i64) (wire_Reader_fail_ok hc))
 (callOf_cons (gcF_holds (fn1_holds Da (vote_Check_ok hc)))
 (callOf_cons (fn1_holds Dv (vote_Box_Now_ok hc))
 (callOf_cons (fn2_holds Dv Da (vote_Box_Write_ok hc))
 (callOf_cons (fn2_holds Dv Da (vote_Box_refuses_ok hc))
 (callOf_cons (fn1_holds Dv (vote_Box_place_ok hc))
 (callOf_cons (gcF_holds (fn1_holds Da (vote_entry_frame_ok hc)))
 (callOf_cons (fn3_holds Dv Dv Dv (vote_Box_Write_1_ok hc))
 (callOf_cons (fn3_holds Dv Dv Dv (vote_Box_Write_2_ok hc))
 (callOf_cons (fn2_holds Dv Dv (vote_Box_Write_3_ok hc))
 (callOf_cons (gcF_holds (fn2_holds Da Da (vote_mayFollow_ok hc)))
 (callOf_cons (gcF_holds (fn1_holds Ds (vote_readEntry_ok hc)))
 (callOf_cons (fn3_holds Da Dv (Di .i64) (vote_content_mend_ok hc))
 (callOf_cons (fn2_holds Dv (Di .i64) (slices_Contains___int_int__ok hc))
 (callOf_cons (fn2_holds Dv (Di .i64) (slices_Index___int_int__ok hc))
 callOf_nil)))))))))))))))))))))))))))))))))))))))))))))))))))))))
noncomputable def world (n d : Nat) : CallF := iterW (worldF n) d
theorem world_ok (n d : Nat) : SaysAll Try.prog (world n d) := iterW_ok (worldF_ok n) d
theorem w_disk_New (n d : Nat)  (h : AHeap) : world n (d + 1) 9 [] h = gcR h (disk_New (world n d) n  h) :=
 Eq.trans (b := gcR h (fn0 (disk_New (world n d) n) [] h)) (by kernel_rfl) (congrArg (gcR h) (fn0_eq  _  h))
theorem w_disk_Disk_Append (n d : Nat) (t0 : AV) (t1 : Int) (t2 : Bytes) (h : AHeap) : world n (d + 1) 22 [t0, .int .i64 t1, strA t2] h = disk_Disk_Append (world n d) n t0 t1 t2 h :=
 Eq.trans (b := fn3 Dv (Di .i64) Ds (disk_Disk_Append (world n d) n) [t0, .int .i64 t1, strA t2] h) (by kernel_rfl) (fn3_eq Dv (Di .i64) Ds _ t0 t1 t2 h)
theorem w_disk_Disk_Sync (n d : Nat) (t0 : AV) (t1 : Int) (h : AHeap) : world n (d + 1) 39 [t0, .int .i64 t1] h = disk_Disk_Sync (world n d) n t0 t1 h :=
 Eq.trans (b := fn2 Dv (Di .i64) (disk_Disk_Sync (world n d) n) [t0, .int .i64 t1] h) (by kernel_rfl) (fn2_eq Dv (Di .i64) _ t0 t1 h)
theorem w_disk_Disk_Cut (n d : Nat) (t0 : AV) (t1 : Int) (t2 : Int) (h : AHeap) : world n (d + 1) 55 [t0, .int .i64 t1, .int .i64 t2] h = disk_Disk_Cut (world n d) n t0 t1 t2 h :=
 Eq.trans (b := fn3 Dv (Di .i64) (Di .i64) (disk_Disk_Cut (world n d) n) [t0, .int .i64 t1, .int .i64 t2] h) (by kernel_rfl) (fn3_eq Dv (Di .i64) (Di .i64) _ t0 t1 t2 h)
theorem w_disk_Disk_Remove (n d : Nat) (t0 : AV) (t1 : Int) (h : AHeap) : world n (d + 1) 36 [t0, .int .i64 t1] h = disk_Disk_Remove (world n d) n t0 t1 h :=
 Eq.trans (b := fn2 Dv (Di .i64) (disk_Disk_Remove (world n d) n) [t0, .int .i64 t1] h) (by kernel_rfl) (fn2_eq Dv (Di .i64) _ t0 t1 h)
theorem w_disk_Disk_Power (n d : Nat) (t0 : AV) (t1 : Int) (h : AHeap) : world n (d + 1) 14 [t0, .int .i64 t1] h = disk_Disk_Power (world n d) n t0 t1 h :=
 Eq.trans (b := fn2 Dv (Di .i64) (disk_Disk_Power (world n d) n) [t0, .int .i64 t1] h) (by kernel_rfl) (fn2_eq Dv (Di .i64) _ t0 t1 h)
theorem w_disk_Disk_On (n d : Nat) (t0 : AV) (h : AHeap) : world n (d + 1) 28 [t0] h = disk_Disk_On (world n d) n t0 h :=
 Eq.trans (b := fn1 Dv (disk_Disk_On (world n d) n) [t0] h) (by kernel_rfl) (fn1_eq Dv _ t0 h)
theorem w_disk_Disk_refuses (n d : Nat) (t0 : AV) (t1 : Int) (h : AHeap) : world n (d + 1) 45 [t0, .int .i64 t1] h = disk_Disk_refuses (world n d) n t0 t1 h :=
 Eq.trans (b := fn2 Dv (Di .i64) (disk_Disk_refuses (world n d) n) [t0, .int .i64 t1] h) (by kernel_rfl) (fn2_eq Dv (Di .i64) _ t0 t1 h)
theorem w_disk_Disk_change (n d : Nat) (t0 : AV) (t1 : Int) (t2 : List AV) (h : AHeap) : world n (d + 1) 46 [t0, .int .i64 t1, .agg t2] h = disk_Disk_change (world n d) n t0 t1 t2 h :=
 Eq.trans (b := fn3 Dv (Di .i64) Da (disk_Disk_change (world n d) n) [t0, .int .i64 t1, .agg t2] h) (by kernel_rfl) (fn3_eq Dv (Di .i64) Da _ t0 t1 t2 h)
theorem w_disk_content_do (n d : Nat) (t0 : AV) (t1 : AV) (h : AHeap) : world n (d + 1) 61 [t0, t1] h = disk_content_do (world n d) n t0 t1 h :=
 Eq.trans (b := fn2 Dv Dv (disk_content_do (world n d) n) [t0, t1] h) (by kernel_rfl) (fn2_eq Dv Dv _ t0 t1 h)
theorem w_disk_Disk_step (n d : Nat) (t0 : AV) (h : AHeap) : world n (d + 1) 62 [t0] h = disk_Disk_step (world n d) n t0 h :=
 Eq.trans (b := fn1 Dv (disk_Disk_step (world n d) n) [t0] h) (by kernel_rfl) (fn1_eq Dv _ t0 h)
theorem w_disk_isFile (n d : Nat) (t0 : Int) (h : AHeap) : world n (d + 1) 51 [.int .i64 t0] h = gcR h (disk_isFile (world n d) n t0 h) :=
 Eq.trans (b := gcR h (fn1 (Di .i64) (disk_isFile (world n d) n) [.int .i64 t0] h)) (by kernel_rfl) (congrArg (gcR h) (fn1_eq (Di .i64) _ t0 h))
theorem w_disk_Disk_Read (n d : Nat) (t0 : AV) (t1 : Int) (h : AHeap) : world n (d + 1) 52 [t0, .int .i64 t1] h = disk_Disk_Read (world n d) n t0 t1 h :=
 Eq.trans (b := fn2 Dv (Di .i64) (disk_Disk_Read (world n d) n) [t0, .int .i64 t1] h) (by kernel_rfl) (fn2_eq Dv (Di .i64) _ t0 t1 h)
theorem w_disk_Disk_Crash (n d : Nat) (t0 : AV) (t1 : AV) (t2 : Int) (h : AHeap) : world n (d + 1) 15 [t0, t1, .int .i64 t2] h = disk_Disk_Crash (world n d) n t0 t1 t2 h :=
 Eq.trans (b := fn3 Dv Dv (Di .i64) (disk_Disk_Crash (world n d) n) [t0, t1, .int .i64 t2] h) (by kernel_rfl) (fn3_eq Dv Dv (Di .i64) _ t0 t1 t2 h)
theorem w_disk_file_crash (n d : Nat) (t0 : AV) (t1 : Int) (t2 : Int) (h : AHeap) : world n (d + 1) 40 [t0, .int .i64 t1, .int .i64 t2] h = disk_file_crash (world n d) n t0 t1 t2 h :=
 Eq.trans (b := fn3 Dv (Di .i64) (Di .i64) (disk_file_crash (world n d) n) [t0, .int .i64 t1, .int .i64 t2] h) (by kernel_rfl) (fn3_eq Dv (Di .i64) (Di .i64) _ t0 t1 t2 h)
theorem w_disk_content_copy (n d : Nat) (t0 : AV) (h : AHeap) : world n (d + 1) 63 [t0] h = disk_content_copy (world n d) n t0 h :=
 Eq.trans (b := fn1 Dv (disk_content_copy (world n d) n) [t0] h) (by kernel_rfl) (fn1_eq Dv _ t0 h)
theorem w_slices_Clone___byte_byte_ (n d : Nat) (t0 : AV) (h : AHeap) : world n (d + 1) 77 [t0] h = slices_Clone___byte_byte_ (world n d) n t0 h :=
 Eq.trans (b := fn1 Dv (slices_Clone___byte_byte_ (world n d) n) [t0] h) (by kernel_rfl) (fn1_eq Dv _ t0 h)
theorem w_disk_Disk_Files (n d : Nat) (t0 : AV) (h : AHeap) : world n (d + 1) 12 [t0] h = disk_Disk_Files (world n d) n t0 h :=
 Eq.trans (b := fn1 Dv (disk_Disk_Files (world n d) n) [t0] h) (by kernel_rfl) (fn1_eq Dv _ t0 h)
theorem w_sum_More (n d : Nat) (t0 : Int) (t1 : Bytes) (h : AHeap) : world n (d + 1) 87 [.int .u32 t0, strA t1] h = gcR h (sum_More (world n d) n t0 t1 h) :=
 Eq.trans (b := gcR h (fn2 (Di .u32) Ds (sum_More (world n d) n) [.int .u32 t0, strA t1] h)) (by kernel_rfl) (congrArg (gcR h) (fn2_eq (Di .u32) Ds _ t0 t1 h))
theorem w_sum_Of (n d : Nat) (t0 : Bytes) (h : AHeap) : world n (d + 1) 84 [strA t0] h = gcR h (sum_Of (world n d) n t0 h) :=
 Eq.trans (b := gcR h (fn1 Ds (sum_Of (world n d) n) [strA t0] h)) (by kernel_rfl) (congrArg (gcR h) (fn1_eq Ds _ t0 h))
theorem w_frame_summed (n d : Nat) (t0 : Bytes) (h : AHeap) : world n (d + 1) 74 [strA t0] h = gcR h (frame_summed (world n d) n t0 h) :=
 Eq.trans (b := gcR h (fn1 Ds (frame_summed (world n d) n) [strA t0] h)) (by kernel_rfl) (congrArg (gcR h) (fn1_eq Ds _ t0 h))
theorem w_frame_whole (n d : Nat) (t0 : Bytes) (h : AHeap) : world n (d + 1) 80 [strA t0] h = gcR h (frame_whole (world n d) n t0 h) :=
 Eq.trans (b := gcR h (fn1 Ds (frame_whole (world n d) n) [strA t0] h)) (by kernel_rfl) (congrArg (gcR h) (fn1_eq Ds _ t0 h))
theorem w_frame_Put (n d : Nat) (t0 : Bytes) (h : AHeap) : world n (d + 1) 57 [strA t0] h = gcR h (frame_Put (world n d) n t0 h) :=
 Eq.trans (b := gcR h (fn1 Ds (frame_Put (world n d) n) [strA t0] h)) (by kernel_rfl) (congrArg (gcR h) (fn1_eq Ds _ t0 h))
theorem w_frame_Take (n d : Nat) (t0 : Bytes) (h : AHeap) : world n (d + 1) 69 [strA t0] h = gcR h (frame_Take (world n d) n t0 h) :=
 Eq.trans (b := gcR h (fn1 Ds (frame_Take (world n d) n) [strA t0] h)) (by kernel_rfl) (congrArg (gcR h) (fn1_eq Ds _ t0 h))
theorem w_frame_All (n d : Nat) (t0 : Bytes) (h : AHeap) : world n (d + 1) 53 [strA t0] h = frame_All (world n d) n t0 h :=
 Eq.trans (b := fn1 Ds (frame_All (world n d) n) [strA t0] h) (by kernel_rfl) (fn1_eq Ds _ t0 h)
theorem w_wire_U32 (n d : Nat) (t0 : Int) (h : AHeap) : world n (d + 1) 75 [.int .u32 t0] h = gcR h (wire_U32 (world n d) n t0 h) :=
 Eq.trans (b := gcR h (fn1 (Di .u32) (wire_U32 (world n d) n) [.int .u32 t0] h)) (by kernel_rfl) (congrArg (gcR h) (fn1_eq (Di .u32) _ t0 h))
theorem w_wire_U64 (n d : Nat) (t0 : Int) (h : AHeap) : world n (d + 1) 58 [.int .u64 t0] h = gcR h (wire_U64 (world n d) n t0 h) :=
 Eq.trans (b := gcR h (fn1 (Di .u64) (wire_U64 (world n d) n) [.int .u64 t0] h)) (by kernel_rfl) (congrArg (gcR h) (fn1_eq (Di .u64) _ t0 h))
theorem w_wire_U8 (n d : Nat) (t0 : Int) (h : AHeap) : world n (d + 1) 59 [.int .u8 t0] h = gcR h (wire_U8 (world n d) n t0 h) :=
 Eq.trans (b := gcR h (fn1 (Di .u8) (wire_U8 (world n d) n) [.int .u8 t0] h)) (by kernel_rfl) (congrArg (gcR h) (fn1_eq (Di .u8) _ t0 h))
theorem w_wire_New (n d : Nat) (t0 : Bytes) (h : AHeap) : world n (d + 1) 70 [strA t0] h = gcR h (wire_New (world n d) n t0 h) :=
 Eq.trans (b := gcR h (fn1 Ds (wire_New (world n d) n) [strA t0] h)) (by kernel_rfl) (congrArg (gcR h) (fn1_eq Ds _ t0 h))
theorem w_wire_number (n d : Nat) (t0 : Int) (t1 : Int) (h : AHeap) : world n (d + 1) 76 [.int .u64 t0, .int .i64 t1] h = gcR h (wire_number (world n d) n t0 t1 h) :=
 Eq.trans (b := gcR h (fn2 (Di .u64) (Di .i64) (wire_number (world n d) n) [.int .u64 t0, .int .i64 t1] h)) (by kernel_rfl) (congrArg (gcR h) (fn2_eq (Di .u64) (Di .i64) _ t0 t1 h))
theorem w_wire_Reader_U32 (n d : Nat) (t0 : AV) (h : AHeap) : world n (d + 1) 79 [t0] h = wire_Reader_U32 (world n d) n t0 h :=
 Eq.trans (b := fn1 Dv (wire_Reader_U32 (world n d) n) [t0] h) (by kernel_rfl) (fn1_eq Dv _ t0 h)
theorem w_wire_Reader_U64 (n d : Nat) (t0 : AV) (h : AHeap) : world n (d + 1) 71 [t0] h = wire_Reader_U64 (world n d) n t0 h :=
 Eq.trans (b := fn1 Dv (wire_Reader_U64 (world n d) n) [t0] h) (by kernel_rfl) (fn1_eq Dv _ t0 h)
theorem w_wire_Reader_U8 (n d : Nat) (t0 : AV) (h : AHeap) : world n (d + 1) 72 [t0] h = wire_Reader_U8 (world n d) n t0 h :=
 Eq.trans (b := fn1 Dv (wire_Reader_U8 (world n d) n) [t0] h) (by kernel_rfl) (fn1_eq Dv _ t0 h)
theorem w_wire_Reader_End (n d : Nat) (t0 : AV) (h : AHeap) : world n (d + 1) 73 [t0] h = wire_Reader_End (world n d) n t0 h :=
 Eq.trans (b := fn1 Dv (wire_Reader_End (world n d) n) [t0] h) (by kernel_rfl) (fn1_eq Dv _ t0 h)
theorem w_wire_Reader_Fault (n d : Nat) (t0 : AV) (h : AHeap) : world n (d + 1) 83 [t0] h = wire_Reader_Fault (world n d) n t0 h :=
 Eq.trans (b := fn1 Dv (wire_Reader_Fault (world n d) n) [t0] h) (by kernel_rfl) (fn1_eq Dv _ t0 h)
theorem w_wire_Reader_number (n d : Nat) (t0 : AV) (t1 : Int) (h : AHeap) : world n (d + 1) 81 [t0, .int .i64 t1] h = wire_Reader_number (world n d) n t0 t1 h :=
 Eq.trans (b := fn2 Dv (Di .i64) (wire_Reader_number (world n d) n) [t0, .int .i64 t1] h) (by kernel_rfl) (fn2_eq Dv (Di .i64) _ t0 t1 h)
theorem w_wire_Reader_whole (n d : Nat) (t0 : AV) (h : AHeap) : world n (d + 1) 82 [t0] h = wire_Reader_whole (world n d) n t0 h :=
 Eq.trans (b := fn1 Dv (wire_Reader_whole (world n d) n) [t0] h) (by kernel_rfl) (fn1_eq Dv _ t0 h)
theorem w_wire_Reader_fail (n d : Nat) (t0 : AV) (t1 : Int) (t2 : Int) (h : AHeap) : world n (d + 1) 86 [t0, .int .i64 t1, .int .i64 t2] h = wire_Reader_fail (world n d) n t0 t1 t2 h :=
 Eq.trans (b := fn3 Dv (Di .i64) (Di .i64) (wire_Reader_fail (world n d) n) [t0, .int .i64 t1, .int .i64 t2] h) (by kernel_rfl) (fn3_eq Dv (Di .i64) (Di .i64) _ t0 t1 t2 h)
theorem w_vote_Check (n d : Nat) (t0 : List AV) (h : AHeap) : world n (d + 1) 17 [.agg t0] h = gcR h (vote_Check (world n d) n t0 h) :=
 Eq.trans (b := gcR h (fn1 Da (vote_Check (world n d) n) [.agg t0] h)) (by kernel_rfl) (congrArg (gcR h) (fn1_eq Da _ t0 h))
theorem w_vote_Box_Now (n d : Nat) (t0 : AV) (h : AHeap) : world n (d + 1) 16 [t0] h = vote_Box_Now (world n d) n t0 h :=
 Eq.trans (b := fn1 Dv (vote_Box_Now (world n d) n) [t0] h) (by kernel_rfl) (fn1_eq Dv _ t0 h)
theorem w_vote_Box_Write (n d : Nat) (t0 : AV) (t1 : List AV) (h : AHeap) : world n (d + 1) 11 [t0, .agg t1] h = vote_Box_Write (world n d) n t0 t1 h :=
 Eq.trans (b := fn2 Dv Da (vote_Box_Write (world n d) n) [t0, .agg t1] h) (by kernel_rfl) (fn2_eq Dv Da _ t0 t1 h)
theorem w_vote_Box_refuses (n d : Nat) (t0 : AV) (t1 : List AV) (h : AHeap) : world n (d + 1) 31 [t0, .agg t1] h = vote_Box_refuses (world n d) n t0 t1 h :=
 Eq.trans (b := fn2 Dv Da (vote_Box_refuses (world n d) n) [t0, .agg t1] h) (by kernel_rfl) (fn2_eq Dv Da _ t0 t1 h)
theorem w_vote_Box_place (n d : Nat) (t0 : AV) (h : AHeap) : world n (d + 1) 33 [t0] h = vote_Box_place (world n d) n t0 h :=
 Eq.trans (b := fn1 Dv (vote_Box_place (world n d) n) [t0] h) (by kernel_rfl) (fn1_eq Dv _ t0 h)
theorem w_vote_entry_frame (n d : Nat) (t0 : List AV) (h : AHeap) : world n (d + 1) 32 [.agg t0] h = gcR h (vote_entry_frame (world n d) n t0 h) :=
 Eq.trans (b := gcR h (fn1 Da (vote_entry_frame (world n d) n) [.agg t0] h)) (by kernel_rfl) (congrArg (gcR h) (fn1_eq Da _ t0 h))
theorem w_vote_Box_Write_1 (n d : Nat) (t0 : AV) (t1 : AV) (t2 : AV) (h : AHeap) : world n (d + 1) 34 [t0, t1, t2] h = vote_Box_Write_1 (world n d) n t0 t1 t2 h :=
 Eq.trans (b := fn3 Dv Dv Dv (vote_Box_Write_1 (world n d) n) [t0, t1, t2] h) (by kernel_rfl) (fn3_eq Dv Dv Dv _ t0 t1 t2 h)
theorem w_vote_Box_Write_2 (n d : Nat) (t0 : AV) (t1 : AV) (t2 : AV) (h : AHeap) : world n (d + 1) 37 [t0, t1, t2] h = vote_Box_Write_2 (world n d) n t0 t1 t2 h :=
 Eq.trans (b := fn3 Dv Dv Dv (vote_Box_Write_2 (world n d) n) [t0, t1, t2] h) (by kernel_rfl) (fn3_eq Dv Dv Dv _ t0 t1 t2 h)
theorem w_vote_Box_Write_3 (n d : Nat) (t0 : AV) (t1 : AV) (h : AHeap) : world n (d + 1) 38 [t0, t1] h = vote_Box_Write_3 (world n d) n t0 t1 h :=
 Eq.trans (b := fn2 Dv Dv (vote_Box_Write_3 (world n d) n) [t0, t1] h) (by kernel_rfl) (fn2_eq Dv Dv _ t0 t1 h)
theorem w_vote_mayFollow (n d : Nat) (t0 : List AV) (t1 : List AV) (h : AHeap) : world n (d + 1) 56 [.agg t0, .agg t1] h = gcR h (vote_mayFollow (world n d) n t0 t1 h) :=
 Eq.trans (b := gcR h (fn2 Da Da (vote_mayFollow (world n d) n) [.agg t0, .agg t1] h)) (by kernel_rfl) (congrArg (gcR h) (fn2_eq Da Da _ t0 t1 h))
theorem w_vote_readEntry (n d : Nat) (t0 : Bytes) (h : AHeap) : world n (d + 1) 54 [strA t0] h = gcR h (vote_readEntry (world n d) n t0 h) :=
 Eq.trans (b := gcR h (fn1 Ds (vote_readEntry (world n d) n) [strA t0] h)) (by kernel_rfl) (congrArg (gcR h) (fn1_eq Ds _ t0 h))
theorem w_vote_content_mend (n d : Nat) (t0 : List AV) (t1 : AV) (t2 : Int) (h : AHeap) : world n (d + 1) 30 [.agg t0, t1, .int .i64 t2] h = vote_content_mend (world n d) n t0 t1 t2 h :=
 Eq.trans (b := fn3 Da Dv (Di .i64) (vote_content_mend (world n d) n) [.agg t0, t1, .int .i64 t2] h) (by kernel_rfl) (fn3_eq Da Dv (Di .i64) _ t0 t1 t2 h)
theorem w_slices_Contains___int_int_ (n d : Nat) (t0 : AV) (t1 : Int) (h : AHeap) : world n (d + 1) 35 [t0, .int .i64 t1] h = slices_Contains___int_int_ (world n d) n t0 t1 h :=
 Eq.trans (b := fn2 Dv (Di .i64) (slices_Contains___int_int_ (world n d) n) [t0, .int .i64 t1] h) (by kernel_rfl) (fn2_eq Dv (Di .i64) _ t0 t1 h)
theorem w_slices_Index___int_int_ (n d : Nat) (t0 : AV) (t1 : Int) (h : AHeap) : world n (d + 1) 60 [t0, .int .i64 t1] h = slices_Index___int_int_ (world n d) n t0 t1 h :=
 Eq.trans (b := fn2 Dv (Di .i64) (slices_Index___int_int_ (world n d) n) [t0, .int .i64 t1] h) (by kernel_rfl) (fn2_eq Dv (Di .i64) _ t0 t1 h)
end Go.Proofs.Yteecmjmglmpbpaa
namespace Go.Proofs.Yteecmjmglmpbpaa.Abs
noncomputable section
open Go.RowKit
def Wp (x : R) (Q : ARes → AHeap → Prop) : Prop := ∃ r h, x = some (r, h) ∧ Q r h
section
variable {α β : Type} {Q Q' : ARes → AHeap → Prop} {r : ARes} {h h1 : AHeap} {v : AV} {x y : R} {b : Bool}
theorem Wp.ret (hq : Q r h) : Wp (some (r, h)) Q := ⟨r, h, rfl, hq⟩
theorem Wp.of (e : x = some (r, h)) (hq : Q r h) : Wp x Q := ⟨r, h, e, hq⟩
theorem Wp.mono (k : Wp x Q) (hq : ∀ r h, Q r h → Q' r h) : Wp x Q' := by
 obtain ⟨r, h, e, q⟩ := k
 exact ⟨r, h, e, hq r h q⟩
theorem Wp.eq (k : Wp x fun r' h' => r' = r ∧ h' = h) : x = some (r, h) := by
 obtain ⟨_, _, e, rfl, rfl⟩ := k
 exact e
theorem Wp.ex {Q : AHeap → Prop} (k : Wp x fun r' h' => r' = r ∧ Q h') : ∃ h', x = some (r, h') ∧ Q h' := by
 obtain ⟨_, h', e, rfl, q⟩ := k
 exact ⟨h', e, q⟩
theorem Wp.lett {v : α} {k : α → R} (hk : Wp (k v) Q) : Wp (lett v k) Q := hk
theorem Wp.lettw {v : Int} {k : Int → R} (h1 : -9223372036854775808 ≤ v) (h2 : v < 9223372036854775808) (hk : Wp (k v) Q) : Wp (Abs.lett (IntKind.i64.wrap v) k) Q := by
 rw [wrap_i64 h1 h2]
 exact hk
theorem Wp.lettu8 {v : Int} {k : Int → R} (h1 : 0 ≤ v) (h2 : v < 256) (hk : Wp (k v) Q) : Wp (Abs.lett (IntKind.u8.wrap v) k) Q := by
 rw [wrap_u8 h1 h2]
 exact hk
theorem Wp.lettu32 {v : Int} {k : Int → R} (h1 : 0 ≤ v) (h2 : v < 4294967296) (hk : Wp (k v) Q) : Wp (Abs.lett (IntKind.u32.wrap v) k) Q := by
 rw [wrap_u32_mod, Int.emod_eq_of_lt h1 h2]
 exact hk
theorem Wp.lettu64 {v : Int} {k : Int → R} (h1 : 0 ≤ v) (h2 : v < 18446744073709551616) (hk : Wp (k v) Q) : Wp (Abs.lett (IntKind.u64.wrap v) k) Q := by
 rw [wrap_u64_mod, Int.emod_eq_of_lt h1 h2]
 exact hk
theorem Wp.join1 {F : α → AHeap → R} {G : (α → AHeap → R) → R} (hk : ∀ k, k = F → Wp (G k) Q) : Wp (Abs.lett F G) Q := hk F rfl
theorem Wp.go1 {k F : α → AHeap → R} {a : α} (e : k = F) (hk : Wp (F a h) Q) : Wp (k a h) Q := by rw [e]; exact hk
theorem Wp.obind {o : Option α} {a : α} {k : α → R} (e : o = some a) (hk : Wp (k a) Q) : Wp (Abs.obind o k) Q := by rw [e]; exact hk
theorem Wp.ift (e : b = true) (hk : Wp x Q) : Wp (ifB b x y) Q := by rw [e]; exact hk
theorem Wp.iff (e : b = false) (hk : Wp y Q) : Wp (ifB b x y) Q := by rw [e]; exact hk
theorem Wp.outK {o : OutT} {k : AV → AHeap → R} (e : o = some (.val v, h1)) (hk : Wp (k v h1) Q) : Wp (Abs.outK o k) Q := by rw [e]; exact hk
theorem Wp.callN {k : AV → AHeap → R} (e : x = some (.ret v, h1)) (hk : Wp (k v h1) Q) : Wp (Abs.callN x k) Q := by rw [e]; exact hk
theorem Wp.callK {k : AV → AHeap → R} (e : x = some (.ret v, h1)) (hk : Wp (k v h1) Q) : Wp (Abs.callK x k) Q := by rw [e]; exact hk
theorem Wp.chk (e : b = true) (hk : Wp x Q) : Wp (Abs.chk b x) Q := by rw [e]; exact hk
theorem Wp.gc (hx : Wp x fun r h' => Above h h' ∧ r.val.scal = true ∧ Q r h) : Wp (gcR h x) Q := by
 obtain ⟨r, h', e, ha, hv, q⟩ := hx
 rw [e, gcR_scal ha hv]
 exact ⟨_, _, rfl, q⟩
theorem Wp.gc' (hx : Wp x fun r h' => Q r h' ∧ (Above h h' → Q r h)) : Wp (gcR h x) Q := by
 obtain ⟨r, h', e, q1, q2⟩ := hx
 rw [e]
 unfold gcR
 split
 ·rename_i e2
  simp only [Option.some.injEq, Prod.mk.injEq] at e2
  obtain ⟨rfl, rfl⟩ := e2
  split
  ·rename_i hc
   exact ⟨_, _, rfl, q2 hc.1⟩
  ·exact ⟨_, _, rfl, q1⟩
 ·rename_i e2
  cases e2
theorem Wp.gcn (hx : Wp x fun r h' => r.val.lo h.next = false ∧ Q r h') : Wp (gcR h x) Q := by
 obtain ⟨r, h', e, hv, q⟩ := hx
 rw [e, gcR_some hv]
 exact ⟨_, _, rfl, q⟩
end
theorem sliceS_int {l : Bytes} {a b : Int} (h0 : 0 ≤ a) (h1 : a ≤ b) (h2 : b ≤ (l.length : Int)) : sliceS l a b = some ((l.drop a.toNat).take (b.toNat - a.toNat)) := by
 obtain ⟨n, rfl⟩ := Int.eq_ofNat_of_zero_le h0
 obtain ⟨m, rfl⟩ := Int.eq_ofNat_of_zero_le (Int.le_trans h0 h1)
 exact sliceS_nat (by omega) (by omega)
theorem addS_val {a b : Bytes} (h : a.length + b.length ≤ 1000000000) : addS a b = some (a ++ b) := by
 unfold addS
 rw [Nat.ble_eq_true_of_le h]
theorem nilC_ptr (b o : Nat) : nilC (.ptr b o) = some (.ptr b o) := rfl
theorem fldP_ptr (f b o : Nat) : fldP f (.ptr b o) = some (.ptr b (o + f)) := rfl
theorem newP_eq (h : AHeap) : newP h = .ptr h.next 0 := rfl
theorem bne_t {a b : Int} (h : a ≠ b) : (a != b) = true := by simp [h]
theorem bne_f {a b : Int} (h : a = b) : (a != b) = false := by simp [h]
theorem beq_t {a b : Int} (h : a = b) : (a == b) = true := by simp [h]
theorem beq_f {a b : Int} (h : a ≠ b) : (a == b) = false := by simp [h]
section
variable {Q : ARes → AHeap → Prop} {h : AHeap} {b o n : Nat} {e : TypeId} {l vs : List AV} {v : AV} {K : AHeap → R}
theorem Wp.st1 (k : RowH h b e l) (ho : o < l.length) (h1 : v.one = true) (hk : ∀ h', RowH h' b e (l.set o v) → Tch [b] h h' → h'.next = h.next → Wp (K h') Q) : Wp (Abs.obind (stRow h 1 [v] (.ptr b o)) K) Q := by
 obtain ⟨h', e1, e2, e3, e4, e5⟩ := k.st1 ho h1
 exact Wp.obind e1 (hk h' e2 (tch_of e3 e4 e5 (.inl (by simp))) e3)
theorem Wp.stN (k : RowH h b e l) (hn : vs.length = n) (ho : o + n ≤ l.length) (h1 : vs.all AV.one = true) (hk : ∀ h', RowH h' b e (laid l o vs) → Tch [b] h h' → h'.next = h.next → Wp (K h') Q) : Wp (Abs.obind (stRow h n vs (.ptr b o)) K) Q := by
 obtain ⟨h', e1, e2, e3, e4, e5⟩ := k.st hn ho h1
 exact Wp.obind e1 (hk h' e2 (tch_of e3 e4 e5 (.inl (by simp))) e3)
theorem Wp.stAll (k : RowH h b e l) (hn : vs.length = n) (hl : l.length = n) (h1 : vs.all AV.one = true) (hk : ∀ h', RowH h' b e vs → Tch [b] h h' → h'.next = h.next → Wp (K h') Q) : Wp (Abs.obind (stRow h n vs (.ptr b 0)) K) Q := by
 obtain ⟨h', e1, e2, e3, e4, e5⟩ := k.stAll hn hl h1
 exact Wp.obind e1 (hk h' e2 (tch_of e3 e4 e5 (.inl (by simp))) e3)
end
def Sli (e sz lo : Nat) (h : AHeap) (v : AV) (rows : List (List AV)) : Prop :=
 (∀ r ∈ rows, r.length = sz ∧ r.all AV.one = true) ∧ ((rows = [] ∧ v = .nsl) ∨ ∃ c, rows ≠ [] ∧ v = .sl c 0 rows.length sz ∧ lo ≤ c ∧ c < h.next ∧ RowH h c e rows.flatten)
section
variable {P : Program} {e sz lo : Nat} {h h' : AHeap} {v x : AV} {rows : List (List AV)} {r : List AV} {t u : TypeId} {S : List Nat}
theorem Sli.nil (e sz lo : Nat) (h : AHeap) : Sli e sz lo h .nsl [] := ⟨by simp, .inl ⟨rfl, rfl⟩⟩
theorem Sli.ab (k : Sli e sz lo h v rows) (hn : h.next ≤ h'.next) (hg : ∀ b, lo ≤ b → b < h.next → h'.get b = h.get b) : Sli e sz lo h' v rows := by
 refine ⟨k.1, ?_⟩
 rcases k.2 with h0 | ⟨c, h1, h2, h3, h4, h5⟩
 ·exact .inl h0
 ·exact .inr ⟨c, h1, h2, h3, by omega, h5.same (hg c h3 h4)⟩
theorem Sli.tch (k : Sli e sz lo h v rows) (ht : Tch S h h') (hS : ∀ b ∈ S, b < lo) : Sli e sz lo h' v rows :=
 k.ab ht.1 fun b h1 h2 => ht.2.2 b h2 fun hm => by have := hS b hm; omega
theorem Sli.push (k : Sli e sz lo h v rows) {B : Nat} (he : elemOf P t = some e) (hu : notInt P u = true) (hsz : P.cellsOf e = sz) (hfit : fitB P e B = true) (hex : memB e h.ex = false) (hlo : lo ≤ h.next)
  (hx : lenA x = some 1) (hf : firstA h sz 1 x = some r) (hr : r.length = sz) (hr1 : r.all AV.one = true) (hbig : (rows.length + 1) * B ≤ 1000000000) (hbig2 : rows.length + 1 ≤ 1000000000) :
  ∃ v' h', opAppend P h t u v x = some (.val v', h') ∧ Sli e sz lo h' v' (rows ++ [r]) ∧ Ab lo h h' := by
 have hall : ∀ q ∈ rows ++ [r], q.length = sz ∧ q.all AV.one = true := by
  intro q hq
  rcases List.mem_append.1 hq with hq | hq
  ·exact k.1 q hq
  ·simp at hq
   subst hq
   exact ⟨hr, hr1⟩
 have hfl : (rows ++ [r]).flatten = rows.flatten ++ r := by simp
 rcases k.2 with ⟨rfl, rfl⟩ | ⟨c, h1, rfl, h3, h4, h5⟩
 ·have a1 := append_new (P := P) (h := h) (t := t) (u := u) (n := 0) (x := x) he hu hsz hx hf (bytesFit_of hfit (by simpa using hbig) (by omega)) hr1 hex
  refine ⟨_, _, a1, ⟨hall, .inr ⟨h.next, by simp, rfl, hlo, Nat.lt_succ_self _, ?_⟩⟩, (Ab.refl lo h).new hlo _⟩
  rw [hfl]
  exact RowH.new _ _ _
 ·have hl := len_same rows (fun l hl => (k.1 l hl).1)
  have a1 := append_more (P := P) (h := h) (t := t) (u := u) (b := c) (o := 0) (m := rows.length) (n := 0) (x := x) (cs := rows.flatten) he hu hsz hx hf (bytesFit_of hfit hbig hbig2) hr1 hex (by
   have := h5.part (o := 0) (n := rows.flatten.length) (by omega)
   rw [List.drop_zero, List.take_length] at this
   rw [← hl]
   exact this) h5.type
  refine ⟨_, _, a1, ⟨hall, .inr ⟨h.next, by simp, by simp, hlo, Nat.lt_succ_self _, ?_⟩⟩, ((Ab.refl lo h).put h3 _).new (by show lo ≤ h.next; exact hlo) _⟩
  rw [hfl]
  exact RowH.new (h.put c .dead) e _
end
end
end Go.Proofs.Yteecmjmglmpbpaa.Abs
