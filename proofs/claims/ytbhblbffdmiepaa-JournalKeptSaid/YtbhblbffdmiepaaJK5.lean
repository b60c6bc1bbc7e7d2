/- What journalKept_proved stands on, part 5 of 8. -/
import Derived.Test.YtbhblbffdmiepaaJK4
import Derived.Test.YtbhblbffdmiepaaRows
import Derived.WalkKit
import Derived.ProofKit
import Derived.OpenShut
import Derived.SizedLaws
import Derived.SliceStrings
namespace Go.Proofs.Ytbhblbffdmiepaa
open Go.ChangeShapes Go.WideShapes Go.ChangeAt Go.RowKit
open Go.ChangeMaps (open_string shut_string)
theorem Try.own : ownKnob Try.prog.godebug = none := by kernel_rfl
theorem Try.laidOut : laidOutB Try.prog = true := by kernel_rfl
section
variable {H : Type} {enc : TypeId × Value → H}
theorem stays {P : Program} (hP : laidOutB P = true) {W W' : World} (hb : Below W.heap.size W W') (ts : List TypeId) : ∀ (vs : List Value) (ds : List (DataW H)) (ps : List MemPlace),
  DataW.TrodAll enc P W 0 (fun _ => true) true ts vs ds ps → (∀ t ∈ ts, P.readableRec t = true ∧ t < P.types.size) → (∀ x ∈ ps, x.block < W.heap.size) →
  DataW.TrodAll enc P W' 0 (fun b => decide (b < W.heap.size)) true ts vs ds ps := by
 induction ts with
 | nil =>
  intro vs ds ps h _ _
  obtain ⟨rfl, rfl, rfl⟩ := trodAll_nil h
  exact trodAll_mk0
 | cons t ts ih =>
  intro vs ds ps h hr hlt
  obtain ⟨v, vs', d, ds', p, q, rfl, rfl, rfl, h1, h2⟩ := trodAll_cons h
  obtain ⟨hr1, hr2⟩ := hr t (List.mem_cons_self ..)
  exact trodAll_cons_mk (Below.trod hP hr1 hr2 h1 hb (fun x hx => hlt x (List.mem_append_left _ hx))) (ih _ _ _ h2 (fun t ht => hr t (List.mem_cons_of_mem _ ht)) (fun x hx => hlt x (List.mem_append_right _ hx)))
theorem readable_of {P : Program} {ts : List TypeId} (h : (ts.all fun t => P.readableRec t && decide (t < P.types.size)) = true) : ∀ t ∈ ts, P.readableRec t = true ∧ t < P.types.size := by
 intro t ht
 have h1 := List.all_eq_true.1 h t ht
 rw [Bool.and_eq_true] at h1
 exact ⟨h1.1, of_decide_eq_true h1.2⟩
set_option maxRecDepth 100000 in
theorem lifted_of {f : FuncId} {fn : Func} {s : ChangeSpec} (hfn : Try.prog.funcs[f]? = some fn) (noInit : Try.prog.inits.idxOf? f = none) (hvars : s.vars = []) (hres : fn.resultTypes = #[4])
  (hread : (fn.params.toList.all fun t => Try.prog.readableRec t && decide (t < Try.prog.types.size)) = true)
  (hspec : ∀ (args : List Value) (ds : List (DataW H)) (W : World) (p : List MemPlace), DataW.TrodAll enc Try.prog W 0 (fun _ => true) true fn.params.toList args ds p → (s.fn H (ds ++ [])).results = [.lit (.bool true)] ∧ (s.fn H (ds ++ [])).args = ds ∧ (s.fn H (ds ++ [])).vars = [])
  (hplain : s.plain.varTypes Try.prog = [])
  (os : Os) (started : os.Started)
  (witness : ∃ (w : World) (tape : Tape) (i : Input), w.os = os ∧ (w.forCall tape i).Shaped Try.prog ∧ i.vars = [] ∧ Input.okWide Try.prog (w.forCall tape i) .any w.heap.size f i ∧
   s.pre6 enc Try.prog fn [] false (w.forCall tape i).memory i.args ∧ ({} : Assume).holds Try.prog (lone (Frame.enter Try.prog f i.args .normal) [] (w.forCall tape i)))
  (walk : ∀ (W : World) (args : Array Value) (ds : List (DataW H)) (p : List MemPlace), (∀ (j : Nat) t v, fn.params[j]? = some t → args[j]? = some v → ∃ base, Value.okWide Try.prog W .any base t v) →
   DataW.TrodAll enc Try.prog W 0 (fun _ => true) true fn.params.toList args.toList ds p → (∀ x ∈ p, x.block < W.heap.size) →
   (DataW.weightsEach Try.prog fn.params.toList ds).all (· ≤ reachBytes) = true →
   Calls Try.prog f args W fun e W' => e = .returned (.bool true) ∧ Below W.heap.size W W') :
  ReturnsInHanded {} Try.checked os f .any (s.pre6 enc Try.prog fn [] false) (s.post enc Try.prog fn false true false false) := by
 refine returnsInHanded_of_change_sized (C := Try.checked) Try.own started noInit hfn witness ?_
 intro W base args ds gs before hval hW _ hsz0 _
 have hW' := hW
 obtain ⟨p, q, hA0, hV, rfl, _, _⟩ := hW
 have hA : DataW.TrodAll enc Try.prog W 0 (fun _ => true) true fn.params.toList args.toList ds p := hA0
 rw [hvars] at hV hW'
 obtain ⟨rfl, rfl⟩ := trodVars_none hV
 simp only [List.append_nil] at hW'
 have hlt : ∀ x ∈ p, x.block < W.heap.size := fun x hx => by simpa using hW'.lt x hx
 have hsz : (DataW.weightsEach Try.prog fn.params.toList ds).all (· ≤ reachBytes) = true := by
  have h := hsz0
  rw [show s.plain.varTypes Try.checked.prog = [] from hplain] at h
  simp only [List.append_nil] at h
  exact h
 obtain ⟨er, ea, ev⟩ := hspec args.toList ds W p hA
 refine (walk W args ds p (fun j t v h1 h2 => ⟨base, hval j t v h1 h2⟩) hA hlt hsz).mono fun e W' ⟨he, hb⟩ => ?_
 subst he
 refine ⟨_, rfl, ds, [], p, [], p, [], ?_, ?_, ?_, ?_, hb.frame _, fun h => by cases h⟩
 ·rw [hvars]; exact hW'
 ·rw [er, hres]; exact trodAll_mk1 (shut_bool Try.underlying4 _)
 ·rw [ea]; exact stays Try.laidOut hb _ _ _ _ hA (readable_of hread) hlt
 ·rw [ev, hvars]; trivial
end
end Go.Proofs.Ytbhblbffdmiepaa
namespace Go.Proofs.Ytbhblbffdmiepaa
open Go.RowKit Abs
noncomputable def disk_New (_ : CallF) (_ : Nat)  (h : AHeap) : R :=
 outK (opBox h 84 (some (.agg ([.bool false, .nsl, .bool false, .nsl, .nsl, .bool false, .nsl, .bool false, .nsl, .nsl, .bool false, .nsl, .bool false, .nsl, .nsl, .bool false, .nsl, .bool false, .nsl, .nsl, .bool false, .nsl, .bool false, .nsl, .nsl, .bool false, .nsl, .bool false, .nsl, .nsl, .bool false, .nsl, .bool false, .nsl, .nsl, .bool false, .nsl, .bool false, .nsl, .nsl, .bool false, .nsl, .bool false, .nsl, .nsl, .bool false, .nsl, .bool false, .nsl, .nsl, .bool false, .nsl, .bool false, .nsl, .nsl, .bool false, .nsl, .bool false, .nsl, .nsl, .bool false, .nsl, .bool false, .nsl, .nsl, .bool false, .nsl, .bool false, .nsl, .nsl, .bool false, .nsl, .bool false, .nsl, .nsl, .bool false, .nsl, .bool false, .nsl, .nsl, .bool false, .nsl, .bool false, .nsl, .nsl, .bool false, .nsl, .bool false, .nsl, .nsl, .bool false, .nsl, .bool false, .nsl, .nsl, .bool false, .nsl, .bool false, .nsl, .nsl, .bool false, .nsl, .bool false, .nsl, .nsl, .bool false, .nsl, .bool false, .nsl, .nsl, .bool false, .nsl, .bool false, .nsl, .nsl, .bool false, .nsl, .bool false, .nsl, .nsl, .bool false, .nsl, .bool false, .nsl, .nsl, .bool false, .nsl, .bool false, .nsl, .nsl, .bool false, .nsl, .bool false, .nsl, .nsl, .bool false, .nsl, .bool false, .nsl, .nsl, .bool false, .nsl, .bool false, .nsl, .nsl, .bool false, .nsl, .bool false, .nsl, .nsl, .bool false, .nsl, .bool false, .nsl, .nsl, .bool false, .nsl, .bool false, .nsl, .nsl, .int .i64 (-1), .int .i64 0] : List AV)))) fun v2 h_3 =>
 some (.ret (v2), h_3)
set_option maxHeartbeats 4000000 in
set_option maxRecDepth 20000 in
theorem disk_New_ok {call : CallF} (_ : SaysAll Try.prog call) {n : Nat}  {h : AHeap} {rR : ARes} {hR : AHeap} (hF : disk_New call n  h = some (rR, hR)) : Says Try.prog 8 [] h rR hR := by
 unfold disk_New at hF
 refine sO Try.func8 fun w0 m0 => ?_
 refine wW [] ?_
 refine oG fun n1 => W.r ?_
 refine oA 0 AV.nilp ?_
 refine oV [] (n1 ?_)
 refine oG fun n2 => W.r ?_
 refine oA 1 (.agg ([.bool false, .nsl, .bool false, .nsl, .nsl, .bool false, .nsl, .bool false, .nsl, .nsl, .bool false, .nsl, .bool false, .nsl, .nsl, .bool false, .nsl, .bool false, .nsl, .nsl, .bool false, .nsl, .bool false, .nsl, .nsl, .bool false, .nsl, .bool false, .nsl, .nsl, .bool false, .nsl, .bool false, .nsl, .nsl, .bool false, .nsl, .bool false, .nsl, .nsl, .bool false, .nsl, .bool false, .nsl, .nsl, .bool false, .nsl, .bool false, .nsl, .nsl, .bool false, .nsl, .bool false, .nsl, .nsl, .bool false, .nsl, .bool false, .nsl, .nsl, .bool false, .nsl, .bool false, .nsl, .nsl, .bool false, .nsl, .bool false, .nsl, .nsl, .bool false, .nsl, .bool false, .nsl, .nsl, .bool false, .nsl, .bool false, .nsl, .nsl, .bool false, .nsl, .bool false, .nsl, .nsl, .bool false, .nsl, .bool false, .nsl, .nsl, .bool false, .nsl, .bool false, .nsl, .nsl, .bool false, .nsl, .bool false, .nsl, .nsl, .bool false, .nsl, .bool false, .nsl, .nsl, .bool false, .nsl, .bool false, .nsl, .nsl, .bool false, .nsl, .bool false, .nsl, .nsl, .bool false, .nsl, .bool false, .nsl, .nsl, .bool false, .nsl, .bool false, .nsl, .nsl, .bool false, .nsl, .bool false, .nsl, .nsl, .bool false, .nsl, .bool false, .nsl, .nsl, .bool false, .nsl, .bool false, .nsl, .nsl, .bool false, .nsl, .bool false, .nsl, .nsl, .bool false, .nsl, .bool false, .nsl, .nsl, .bool false, .nsl, .bool false, .nsl, .nsl, .bool false, .nsl, .bool false, .nsl, .nsl, .int .i64 (-1), .int .i64 0] : List AV)) ?_
 refine oK 2 hF fun v2 h_3 hF => ?_
 refine oA 0 v2 ?_
 refine oV [(0, v2)] (n2 (oY ?_))
 exact lZ hF [.tmp 0] [v2] (rT res_nil)
noncomputable def disk_Disk_Append (call : CallF) (_ : Nat) (t0 : AV) (t1 : Int) (t2 : Bytes) (h : AHeap) : R :=
 callN (call 47 [t0, .int .i64 t1] h) fun r10 h_4 =>
 obind (avInt .i64 r10) fun t10 =>
 lett ((t10 : Int) != 0) fun (t12 : Bool) =>
 ifB t12
 (
  some (.ret (.int .i64 t10), h_4))
 (
  obind (nilC t0) fun t18 =>
  obind (fldP 0 t18) fun t19 =>
  obind (idxA 32 5 t19 t1) fun t20 =>
  obind (fldP 2 t20) fun t21 =>
  obind (fldP 1 t21) fun t22 =>
  obind (ldCell h_4 t22) fun v23 =>
  obind (lenL v23) fun t24 =>
  lett (IntKind.i64.wrap (1048576 - t24)) fun (t25 : Int) =>
  lett (decide ((lenS t2) > t25)) fun (t26 : Bool) =>
  ifB t26
  (
   some (.ret (.int .i64 8), h_4))
  (
   callN (call 48 [t0, .int .i64 t1, .agg ([.int .i64 0, strA t2, .int .i64 0] : List AV)] h_4) fun r31 h_23 =>
   obind (avInt .i64 r31) fun t31 =>
   some (.ret (.int .i64 t31), h_23)))
set_option maxHeartbeats 4000000 in
set_option maxRecDepth 20000 in
theorem disk_Disk_Append_ok {call : CallF} (hc : SaysAll Try.prog call) {n : Nat} {t0 : AV} {t1 : Int} {t2 : Bytes} {h : AHeap} {rR : ARes} {hR : AHeap} (hF : disk_Disk_Append call n t0 t1 t2 h = some (rR, hR)) : Says Try.prog 23 [t0, .int .i64 t1, strA t2] h rR hR := by
 unfold disk_Disk_Append at hF
 refine sO Try.func23 fun w0 m0 => ?_
 refine wW [(0, t0), (1, .int .i64 t1), (2, strA t2)] ?_
 refine oG fun n1 => W.r ?_
 refine oA 6 (.int .i64 0) ?_
 refine oV [(0, t0), (1, .int .i64 t1), (2, strA t2)] (n1 ?_)
 refine oH fun n2 q2 => ?_
 refine oG fun n3 => W.r ?_
 refine oA 8 t0 ?_
 refine oA 9 (.int .i64 t1) ?_
 refine oCi hc 10 hF fun t10 h_4 hF => ?_
 refine oA 7 (.int .i64 t10) ?_
 refine oV [(0, t0), (1, .int .i64 t1), (2, strA t2), (7, .int .i64 t10)] (n3 ?_)
 refine oG fun n7 => W.r ?_
 refine oA 11 (.int .i64 t10) ?_
 refine oB 12 hF fun t12 hF => ?_
 refine oV [(0, t0), (1, .int .i64 t1), (2, strA t2), (7, .int .i64 t10), (12, .bool t12)] (n7 ?_)
 cases t12 with
 | true =>
  refine oT hF fun hF => ?_
  refine oG fun n9 => W.r ?_
  refine oA 13 (.int .i64 t10) ?_
  refine oA 6 (.int .i64 t10) ?_
  refine oV [(6, .int .i64 t10)] (n9 (oY (q2 ?_)))
  exact lZ hF [.tmp 6] [.int .i64 t10] (rT res_nil)
 | false =>
  refine oU hF fun hF => ?_
  refine oZ (n2 ?_)
  refine oH fun n10 q10 => ?_
  refine oG fun n11 => W.r ?_
  refine oA 14 (strA t2) ?_
  refine oA 15 (.int .i64 (lenS t2)) ?_
  refine oA 16 t0 ?_
  refine oA 17 (.int .i64 t1) ?_
  refine oC0 18 hF fun t18 hF => ?_
  refine oF 19 84 0 hF fun t19 hF => ?_
  refine oQ 20 82 81 .i64 hF fun t20 hF => ?_
  refine oF 21 81 1 hF fun t21 hF => ?_
  refine oF 22 78 1 hF fun t22 hF => ?_
  refine oL 23 37 hF fun v23 hF => ?_
  refine oM 24 37 5 hF fun t24 hF => ?_
  refine oI 25 .i64 hF fun t25 hF => ?_
  refine oB 26 hF fun t26 hF => ?_
  refine oV [(0, t0), (1, .int .i64 t1), (2, strA t2), (26, .bool t26)] (n11 ?_)
  cases t26 with
  | true =>
   refine oT hF fun hF => ?_
   refine oG fun n21 => W.r ?_
   refine oA 6 (.int .i64 8) ?_
   refine oV [(6, .int .i64 8)] (n21 (oY (q10 ?_)))
   exact lZ hF [.tmp 6] [.int .i64 8] (rT res_nil)
  | false =>
   refine oU hF fun hF => ?_
   refine oZ (n10 ?_)
   refine oG fun n22 => W.r ?_
   refine oA 27 t0 ?_
   refine oA 28 (.int .i64 t1) ?_
   refine oA 29 (strA t2) ?_
   refine oA 30 (.agg ([.int .i64 0, strA t2, .int .i64 0] : List AV)) ?_
   refine oCi hc 31 hF fun t31 h_23 hF => ?_
   refine oA 6 (.int .i64 t31) ?_
   refine oV [(6, .int .i64 t31)] (n22 (oY ?_))
   exact lZ hF [.tmp 6] [.int .i64 t31] (rT res_nil)
noncomputable def disk_Disk_Sync (call : CallF) (_ : Nat) (t0 : AV) (t1 : Int) (h : AHeap) : R :=
 callN (call 47 [t0, .int .i64 t1] h) fun r9 h_4 =>
 obind (avInt .i64 r9) fun t9 =>
 lett ((t9 : Int) != 0) fun (t11 : Bool) =>
 ifB t11
 (
  some (.ret (.int .i64 t9), h_4))
 (
  obind (nilC t0) fun t15 =>
  obind (fldP 0 t15) fun t16 =>
  obind (idxA 32 5 t16 t1) fun t17 =>
  obind (nilC t17) fun t19 =>
  obind (fldP 0 t19) fun t20 =>
  obind (nilC t17) fun t22 =>
  obind (fldP 4 t22) fun t23 =>
  obind (ldCell h_4 t23) fun v24 =>
  callN (call 56 [t20, v24] h_4) fun _ h_20 =>
  obind (nilC t17) fun t27 =>
  obind (fldP 4 t27) fun t28 =>
  obind (stRow h_20 1 (AV.cells AV.nsl) t28) fun h_25 =>
  callN (call 57 [t0] h_25) fun _ h_28 =>
  some (.ret (.int .i64 0), h_28))
set_option maxHeartbeats 4000000 in
set_option maxRecDepth 20000 in
theorem disk_Disk_Sync_ok {call : CallF} (hc : SaysAll Try.prog call) {n : Nat} {t0 : AV} {t1 : Int} {h : AHeap} {rR : ARes} {hR : AHeap} (hF : disk_Disk_Sync call n t0 t1 h = some (rR, hR)) : Says Try.prog 34 [t0, .int .i64 t1] h rR hR := by
 unfold disk_Disk_Sync at hF
 refine sO Try.func34 fun w0 m0 => ?_
 refine wW [(0, t0), (1, .int .i64 t1)] ?_
 refine oG fun n1 => W.r ?_
 refine oA 4 (.int .i64 0) ?_
 refine oV [(0, t0), (1, .int .i64 t1)] (n1 ?_)
 refine oH fun n2 q2 => ?_
 refine oG fun n3 => W.r ?_
 refine oA 7 t0 ?_
 refine oA 8 (.int .i64 t1) ?_
 refine oCi hc 9 hF fun t9 h_4 hF => ?_
 refine oA 5 (.int .i64 t9) ?_
 refine oV [(0, t0), (1, .int .i64 t1), (5, .int .i64 t9)] (n3 ?_)
 refine oG fun n7 => W.r ?_
 refine oA 10 (.int .i64 t9) ?_
 refine oB 11 hF fun t11 hF => ?_
 refine oV [(0, t0), (1, .int .i64 t1), (5, .int .i64 t9), (11, .bool t11)] (n7 ?_)
 cases t11 with
 | true =>
  refine oT hF fun hF => ?_
  refine oG fun n9 => W.r ?_
  refine oA 12 (.int .i64 t9) ?_
  refine oA 4 (.int .i64 t9) ?_
  refine oV [(4, .int .i64 t9)] (n9 (oY (q2 ?_)))
  exact lZ hF [.tmp 4] [.int .i64 t9] (rT res_nil)
 | false =>
  refine oU hF fun hF => ?_
  refine oZ (n2 ?_)
  refine oG fun n10 => W.r ?_
  refine oA 13 t0 ?_
  refine oA 14 (.int .i64 t1) ?_
  refine oC0 15 hF fun t15 hF => ?_
  refine oF 16 84 0 hF fun t16 hF => ?_
  refine oQ 17 82 81 .i64 hF fun t17 hF => ?_
  refine oA 6 t17 ?_
  refine oV [(0, t0), (6, t17)] (n10 ?_)
  refine oG fun n14 => ?_
  refine W.draw (by kernel_rfl) (hc.ok w0) (plan := [0, 1, 2, 3, 4, 5, 6, 7]) (by kernel_rfl) (by kernel_rfl) (by kernel_rfl) ?_
  refine WD.a 0 (some 18) t17 h_4 ?_
  obtain ⟨t19, e15, hF⟩ := obind_some hF
  refine WD.b 0 (some 19) t19 h_4 (nil_chk (h := h_4) e15) ?_
  obtain ⟨t20, e16, hF⟩ := obind_some hF
  refine WD.b 0 (some 20) t20 h_4 (field_ptr (P := Try.prog) (h := h_4) (s := 81) (f := 0) (by kernel_rfl) e16) ?_
  refine WD.a 0 (some 21) t17 h_4 ?_
  obtain ⟨t22, e17, hF⟩ := obind_some hF
  refine WD.b 0 (some 22) t22 h_4 (nil_chk (h := h_4) e17) ?_
  obtain ⟨t23, e18, hF⟩ := obind_some hF
  refine WD.b 0 (some 23) t23 h_4 (field_ptr (P := Try.prog) (h := h_4) (s := 81) (f := 2) (by kernel_rfl) e18) ?_
  obtain ⟨v24, e19, hF⟩ := obind_some hF
  refine WD.b 1 (some 24) v24 h_4 (load_cell (P := Try.prog) (h := h_4) (t := 79) (by kernel_rfl) e19) ?_
  obtain ⟨r25, h_20, e21, hF⟩ := callN_some hF
  refine WD.call (d := (some 25)) (by kernel_rfl) (by kernel_rfl) (by kernel_rfl) e21 (k := 2) (by kernel_rfl) (fun _ => (by kernel_rfl)) (by decide) ?_
  refine WD.nil ?_
  refine gW [(0, t0), (6, t17)] (n14 ?_)
  refine oG fun n22 => W.r ?_
  refine oA 26 t17 ?_
  refine oC0 27 hF fun t27 hF => ?_
  refine oF 28 81 2 hF fun t28 hF => ?_
  refine oW 79 AV.nsl hF fun h_25 hF => ?_
  refine oV [(0, t0)] (n22 ?_)
  refine oG fun n27 => W.r ?_
  refine oA 29 t0 ?_
  refine oC hc (some 30) hF fun r30 h_28 hF => ?_
  refine oV [] (n27 ?_)
  refine oG fun n30 => W.r ?_
  refine oA 4 (.int .i64 0) ?_
  refine oV [(4, .int .i64 0)] (n30 (oY ?_))
  exact lZ hF [.tmp 4] [.int .i64 0] (rT res_nil)
noncomputable def disk_Disk_Cut (call : CallF) (_ : Nat) (t0 : AV) (t1 : Int) (t2 : Int) (h : AHeap) : R :=
 callN (call 47 [t0, .int .i64 t1] h) fun r11 h_4 =>
 obind (avInt .i64 r11) fun t11 =>
 lett ((t11 : Int) != 0) fun (t13 : Bool) =>
 ifB t13
 (
  some (.ret (.int .i64 t11), h_4))
 (
  obind (nilC t0) fun t17 =>
  obind (fldP 0 t17) fun t18 =>
  obind (idxA 32 5 t18 t1) fun t19 =>
  obind (fldP 2 t19) fun t20 =>
  obind (nilC t20) fun t22 =>
  obind (fldP 0 t22) fun t23 =>
  obind (ldCell h_4 t23) fun v24 =>
  obind (avBool v24) fun t24 =>
  lett (!t24) fun (t25 : Bool) =>
  ifB t25
  (
   some (.ret (.int .i64 4), h_4))
  (
   lett (decide (t2 < 0)) fun (t27 : Bool) =>
   lett (fun (t36 : Bool) (h_26 : AHeap) =>
    ifB t36
    (
     some (.ret (.int .i64 5), h_26))
    (
     callN (call 48 [t0, .int .i64 t1, .agg ([.int .i64 1, .str 0 0, .int .i64 t2] : List AV)] h_26) fun r41 h_31 =>
     obind (avInt .i64 r41) fun t41 =>
     some (.ret (.int .i64 t41), h_31))) fun j36 =>
   ifB t27
   (
    j36 true h_4)
   (
    obind (nilC t20) fun t31 =>
    obind (fldP 1 t31) fun t32 =>
    obind (ldCell h_4 t32) fun v33 =>
    obind (lenL v33) fun t34 =>
    lett (decide (t2 > t34)) fun (t35 : Bool) =>
    j36 t35 h_4)))
set_option maxHeartbeats 4000000 in
set_option maxRecDepth 20000 in
theorem disk_Disk_Cut_ok {call : CallF} (hc : SaysAll Try.prog call) {n : Nat} {t0 : AV} {t1 : Int} {t2 : Int} {h : AHeap} {rR : ARes} {hR : AHeap} (hF : disk_Disk_Cut call n t0 t1 t2 h = some (rR, hR)) : Says Try.prog 33 [t0, .int .i64 t1, .int .i64 t2] h rR hR := by
 unfold disk_Disk_Cut at hF
 refine sO Try.func33 fun w0 m0 => ?_
 refine wW [(0, t0), (1, .int .i64 t1), (2, .int .i64 t2)] ?_
 refine oG fun n1 => W.r ?_
 refine oA 6 (.int .i64 0) ?_
 refine oV [(0, t0), (1, .int .i64 t1), (2, .int .i64 t2)] (n1 ?_)
 refine oH fun n2 q2 => ?_
 refine oG fun n3 => W.r ?_
 refine oA 9 t0 ?_
 refine oA 10 (.int .i64 t1) ?_
 refine oCi hc 11 hF fun t11 h_4 hF => ?_
 refine oA 7 (.int .i64 t11) ?_
 refine oV [(0, t0), (1, .int .i64 t1), (2, .int .i64 t2), (7, .int .i64 t11)] (n3 ?_)
 refine oG fun n7 => W.r ?_
 refine oA 12 (.int .i64 t11) ?_
 refine oB 13 hF fun t13 hF => ?_
 refine oV [(0, t0), (1, .int .i64 t1), (2, .int .i64 t2), (7, .int .i64 t11), (13, .bool t13)] (n7 ?_)
 cases t13 with
 | true =>
  refine oT hF fun hF => ?_
  refine oG fun n9 => W.r ?_
  refine oA 14 (.int .i64 t11) ?_
  refine oA 6 (.int .i64 t11) ?_
  refine oV [(6, .int .i64 t11)] (n9 (oY (q2 ?_)))
  exact lZ hF [.tmp 6] [.int .i64 t11] (rT res_nil)
 | false =>
  refine oU hF fun hF => ?_
  refine oZ (n2 ?_)
  refine oG fun n10 => W.r ?_
  refine oA 15 t0 ?_
  refine oA 16 (.int .i64 t1) ?_
  refine oC0 17 hF fun t17 hF => ?_
  refine oF 18 84 0 hF fun t18 hF => ?_
  refine oQ 19 82 81 .i64 hF fun t19 hF => ?_
  refine oF 20 81 1 hF fun t20 hF => ?_
  refine oA 8 t20 ?_
  refine oV [(0, t0), (1, .int .i64 t1), (2, .int .i64 t2), (8, t20)] (n10 ?_)
  refine oH fun n15 q15 => ?_
  refine oG fun n16 => W.r ?_
  refine oA 21 t20 ?_
  refine oC0 22 hF fun t22 hF => ?_
  refine oF 23 78 0 hF fun t23 hF => ?_
  refine oLb 24 4 hF fun t24 hF => ?_
  refine oB 25 hF fun t25 hF => ?_
  refine oV [(0, t0), (1, .int .i64 t1), (2, .int .i64 t2), (8, t20), (25, .bool t25)] (n16 ?_)
  cases t25 with
  | true =>
   refine oT hF fun hF => ?_
   refine oG fun n22 => W.r ?_
   refine oA 6 (.int .i64 4) ?_
   refine oV [(6, .int .i64 4)] (n22 (oY (q15 ?_)))
   exact lZ hF [.tmp 6] [.int .i64 4] (rT res_nil)
  | false =>
   refine oU hF fun hF => ?_
   refine oZ (n15 ?_)
   refine oH fun n23 q23 => ?_
   refine W.s (fun K24 n24 e24 q24 p24 => ?_)
   refine W.r ?_
   refine oA 26 (.int .i64 t2) ?_
   refine oB 27 hF fun t27 hF => ?_
   refine oA 28 (.bool t27) ?_
   obtain ⟨j36, e27, hF⟩ := lett_some hF
   have J28 : ∀ (t36 : Bool) (h_26 : AHeap), j36 t36 h_26 = some (rR, hR) → WL Try.prog w0 m0 (Func.ntmps Try.f33) (Code.ops (Code.p1 (Code.p1 (Code.p2 (Code.p2 (Code.p2 (Code.p2 (codeOf Try.f33)))))))) 11 K24 [(0, t0), (1, .int .i64 t1), (2, .int .i64 t2), (36, .bool t36)] [] h_26 := by
    intro t36 h_26 hF
    rw [e27] at hF
    refine oV [(0, t0), (1, .int .i64 t1), (2, .int .i64 t2), (36, .bool t36)] (n24 ?_)
    cases t36 with
    | true =>
     refine oT hF fun hF => ?_
     refine oG fun n29 => W.r ?_
     refine oA 6 (.int .i64 5) ?_
     refine oV [(6, .int .i64 5)] (n29 (oY (q23 ?_)))
     exact lZ hF [.tmp 6] [.int .i64 5] (rT res_nil)
    | false =>
     refine oU hF fun hF => ?_
     refine oZ (n23 ?_)
     refine oG fun n30 => W.r ?_
     refine oA 37 t0 ?_
     refine oA 38 (.int .i64 t1) ?_
     refine oA 39 (.int .i64 t2) ?_
     refine oA 40 (.agg ([.int .i64 1, .str 0 0, .int .i64 t2] : List AV)) ?_
     refine oCi hc 41 hF fun t41 h_31 hF => ?_
     refine oA 6 (.int .i64 t41) ?_
     refine oV [(6, .int .i64 t41)] (n30 (oY ?_))
     exact lZ hF [.tmp 6] [.int .i64 t41] (rT res_nil)
   cases t27 with
   | true =>
    replace hF := ifB_t hF
    refine WL.o (some 29) ?_
    refine WL.o (some 30) ?_
    refine WL.o (some 31) ?_
    refine WL.o (some 32) ?_
    refine WL.o (some 33) ?_
    refine WL.o (some 34) ?_
    refine WL.o (some 35) ?_
    refine oA 36 (.bool true) ?_
    exact lW _ (J28 _ _ hF)
   | false =>
    replace hF := ifB_f hF
    refine oA 29 (.int .i64 t2) ?_
    refine oA 30 t20 ?_
    refine oC0 31 hF fun t31 hF => ?_
    refine oF 32 78 1 hF fun t32 hF => ?_
    refine oL 33 37 hF fun v33 hF => ?_
    refine oM 34 37 5 hF fun t34 hF => ?_
    refine oB 35 hF fun t35 hF => ?_
    refine oA 36 (.bool t35) ?_
    exact lW _ (J28 _ _ hF)
noncomputable def disk_Disk_Power (_ : CallF) (_ : Nat) (t0 : AV) (t1 : Int) (h : AHeap) : R :=
 outK (opBin Try.prog h .eql 23 true (some t0) (some AV.nilp)) fun v6 h_4 =>
 obind (avBool v6) fun t6 =>
 ifB t6
 (
  some (.ret (.int .i64 1), h_4))
 (
  lett (if (-1) > t1 then (-1) else t1) fun (t9 : Int) =>
  obind (nilC t0) fun t10 =>
  obind (fldP 160 t10) fun t11 =>
  obind (stRow h_4 1 [.int .i64 t9] t11) fun h_12 =>
  some (.ret (.int .i64 0), h_12))
set_option maxHeartbeats 4000000 in
set_option maxRecDepth 20000 in
theorem disk_Disk_Power_ok {call : CallF} (_ : SaysAll Try.prog call) {n : Nat} {t0 : AV} {t1 : Int} {h : AHeap} {rR : ARes} {hR : AHeap} (hF : disk_Disk_Power call n t0 t1 h = some (rR, hR)) : Says Try.prog 22 [t0, .int .i64 t1] h rR hR := by
 unfold disk_Disk_Power at hF
 refine sO Try.func22 fun w0 m0 => ?_
 refine wW [(0, t0), (1, .int .i64 t1)] ?_
 refine oG fun n1 => W.r ?_
 refine oA 4 (.int .i64 0) ?_
 refine oV [(0, t0), (1, .int .i64 t1)] (n1 ?_)
 refine oH fun n2 q2 => ?_
 refine oG fun n3 => W.r ?_
 refine oA 5 t0 ?_
 replace hF := outK_some hF; obtain ⟨v6, h_4, e5, hF⟩ := hF
 replace hF := obind_some hF; obtain ⟨t6, c6, hF⟩ := hF
 have c6 := avBool_some c6
 subst c6
 refine WL.b (some 6) (.bool t6) h_4 e5 ?_
 refine oV [(0, t0), (1, .int .i64 t1), (6, .bool t6)] (n3 ?_)
 cases t6 with
 | true =>
  refine oT hF fun hF => ?_
  refine oG fun n7 => W.r ?_
  refine oA 4 (.int .i64 1) ?_
  refine oV [(4, .int .i64 1)] (n7 (oY (q2 ?_)))
  exact lZ hF [.tmp 4] [.int .i64 1] (rT res_nil)
 | false =>
  refine oU hF fun hF => ?_
  refine oZ (n2 ?_)
  refine oG fun n8 => W.r ?_
  refine oA 7 t0 ?_
  refine oA 8 (.int .i64 t1) ?_
  refine oI 9 .i64 hF fun t9 hF => ?_
  refine oC0 10 hF fun t10 hF => ?_
  refine oF 11 84 1 hF fun t11 hF => ?_
  refine oW 3 (.int .i64 t9) hF fun h_12 hF => ?_
  refine oV [] (n8 ?_)
  refine oG fun n14 => W.r ?_
  refine oA 4 (.int .i64 0) ?_
  refine oV [(4, .int .i64 0)] (n14 (oY ?_))
  exact lZ hF [.tmp 4] [.int .i64 0] (rT res_nil)
noncomputable def disk_Disk_On (_ : CallF) (_ : Nat) (t0 : AV) (h : AHeap) : R :=
 outK (opBin Try.prog h .neq 23 true (some t0) (some AV.nilp)) fun v4 h_3 =>
 obind (avBool v4) fun t4 =>
 lett (fun (t11 : Bool) (h_6 : AHeap) =>
  some (.ret (.bool t11), h_6)) fun j11 =>
 ifB t4
 (
  obind (nilC t0) fun t7 =>
  obind (fldP 160 t7) fun t8 =>
  obind (ldCell h_3 t8) fun v9 =>
  obind (avInt .i64 v9) fun t9 =>
  lett ((t9 : Int) != 0) fun (t10 : Bool) =>
  j11 t10 h_3)
 (
  j11 false h_3)
set_option maxHeartbeats 4000000 in
set_option maxRecDepth 20000 in
theorem disk_Disk_On_ok {call : CallF} (_ : SaysAll Try.prog call) {n : Nat} {t0 : AV} {h : AHeap} {rR : ARes} {hR : AHeap} (hF : disk_Disk_On call n t0 h = some (rR, hR)) : Says Try.prog 72 [t0] h rR hR := by
 unfold disk_Disk_On at hF
 refine sO Try.func72 fun w0 m0 => ?_
 refine wW [(0, t0)] ?_
 refine oG fun n1 => W.r ?_
 refine oA 2 (.bool false) ?_
 refine oV [(0, t0)] (n1 ?_)
 refine W.s (fun K2 n2 e2 q2 p2 => ?_)
 refine W.r ?_
 refine oA 3 t0 ?_
 replace hF := outK_some hF; obtain ⟨v4, h_3, e4, hF⟩ := hF
 replace hF := obind_some hF; obtain ⟨t4, c5, hF⟩ := hF
 have c5 := avBool_some c5
 subst c5
 refine WL.b (some 4) (.bool t4) h_3 e4 ?_
 refine oA 5 (.bool t4) ?_
 obtain ⟨j11, e7, hF⟩ := lett_some hF
 have J8 : ∀ (t11 : Bool) (h_6 : AHeap), j11 t11 h_6 = some (rR, hR) → WL Try.prog w0 m0 (Func.ntmps Try.f72) (Code.ops (Code.p1 (Code.p2 (codeOf Try.f72)))) 9 K2 [(11, .bool t11)] [] h_6 := by
  intro t11 h_6 hF
  rw [e7] at hF
  refine oA 2 (.bool t11) ?_
  refine oV [(2, .bool t11)] (n2 (oY ?_))
  exact lZ hF [.tmp 2] [.bool t11] (rT res_nil)
 cases t4 with
 | true =>
  replace hF := ifB_t hF
  refine oA 6 t0 ?_
  refine oC0 7 hF fun t7 hF => ?_
  refine oF 8 84 1 hF fun t8 hF => ?_
  refine oLi 9 3 hF fun t9 hF => ?_
  refine oB 10 hF fun t10 hF => ?_
  refine oA 11 (.bool t10) ?_
  exact lW _ (J8 _ _ hF)
 | false =>
  replace hF := ifB_f hF
  refine WL.o (some 6) ?_
  refine WL.o (some 7) ?_
  refine WL.o (some 8) ?_
  refine WL.o (some 9) ?_
  refine WL.o (some 10) ?_
  refine oA 11 (.bool false) ?_
  exact lW _ (J8 _ _ hF)
noncomputable def disk_Disk_Ops (_ : CallF) (_ : Nat) (t0 : AV) (h : AHeap) : R :=
 outK (opBin Try.prog h .eql 23 true (some t0) (some AV.nilp)) fun v4 h_4 =>
 obind (avBool v4) fun t4 =>
 ifB t4
 (
  some (.ret (.int .i64 0), h_4))
 (
  obind (nilC t0) fun t6 =>
  obind (fldP 161 t6) fun t7 =>
  obind (ldCell h_4 t7) fun v8 =>
  obind (avInt .i64 v8) fun t8 =>
  some (.ret (.int .i64 t8), h_4))
set_option maxHeartbeats 4000000 in
set_option maxRecDepth 20000 in
theorem disk_Disk_Ops_ok {call : CallF} (_ : SaysAll Try.prog call) {n : Nat} {t0 : AV} {h : AHeap} {rR : ARes} {hR : AHeap} (hF : disk_Disk_Ops call n t0 h = some (rR, hR)) : Says Try.prog 27 [t0] h rR hR := by
 unfold disk_Disk_Ops at hF
 refine sO Try.func27 fun w0 m0 => ?_
 refine wW [(0, t0)] ?_
 refine oG fun n1 => W.r ?_
 refine oA 2 (.int .i64 0) ?_
 refine oV [(0, t0)] (n1 ?_)
 refine oH fun n2 q2 => ?_
 refine oG fun n3 => W.r ?_
 refine oA 3 t0 ?_
 replace hF := outK_some hF; obtain ⟨v4, h_4, e5, hF⟩ := hF
 replace hF := obind_some hF; obtain ⟨t4, c6, hF⟩ := hF
 have c6 := avBool_some c6
 subst c6
 refine WL.b (some 4) (.bool t4) h_4 e5 ?_
 refine oV [(0, t0), (4, .bool t4)] (n3 ?_)
 cases t4 with
 | true =>
  refine oT hF fun hF => ?_
  refine oG fun n7 => W.r ?_
  refine oA 2 (.int .i64 0) ?_
  refine oV [(2, .int .i64 0)] (n7 (oY (q2 ?_)))
  exact lZ hF [.tmp 2] [.int .i64 0] (rT res_nil)
 | false =>
  refine oU hF fun hF => ?_
  refine oZ (n2 ?_)
  refine oG fun n8 => W.r ?_
  refine oA 5 t0 ?_
  refine oC0 6 hF fun t6 hF => ?_
  refine oF 7 84 2 hF fun t7 hF => ?_
  refine oLi 8 3 hF fun t8 hF => ?_
  refine oA 2 (.int .i64 t8) ?_
  refine oV [(2, .int .i64 t8)] (n8 (oY ?_))
  exact lZ hF [.tmp 2] [.int .i64 t8] (rT res_nil)
noncomputable def disk_Disk_refuses (call : CallF) (_ : Nat) (t0 : AV) (t1 : Int) (h : AHeap) : R :=
 outK (opBin Try.prog h .eql 23 true (some t0) (some AV.nilp)) fun v7 h_5 =>
 obind (avBool v7) fun t7 =>
 ifB t7
 (
  some (.ret (.int .i64 1), h_5))
 (
  callN (call 72 [t0] h_5) fun r10 h_10 =>
  obind (avBool r10) fun t10 =>
  lett (!t10) fun (t11 : Bool) =>
  ifB t11
  (
   some (.ret (.int .i64 40), h_10))
  (
   callN (call 52 [.int .i64 t1] h_10) fun r14 h_16 =>
   obind (avBool r14) fun t14 =>
   lett (!t14) fun (t15 : Bool) =>
   ifB t15
   (
    some (.ret (.int .i64 2), h_16))
   (
    some (.ret (.int .i64 0), h_16))))
set_option maxHeartbeats 4000000 in
set_option maxRecDepth 20000 in
theorem disk_Disk_refuses_ok {call : CallF} (hc : SaysAll Try.prog call) {n : Nat} {t0 : AV} {t1 : Int} {h : AHeap} {rR : ARes} {hR : AHeap} (hF : disk_Disk_refuses call n t0 t1 h = some (rR, hR)) : Says Try.prog 47 [t0, .int .i64 t1] h rR hR := by
 unfold disk_Disk_refuses at hF
 refine sO Try.func47 fun w0 m0 => ?_
 refine wW [(0, t0), (1, .int .i64 t1)] ?_
 refine oG fun n1 => W.r ?_
 refine oA 4 (.int .i64 0) ?_
 refine oV [(0, t0), (1, .int .i64 t1)] (n1 ?_)
 refine oH fun n2 q2 => ?_
 refine W.blockK (by kernel_rfl) (fun K3 n3 s3 o3 q3 p3 => ?_)
 refine oG fun n4 => W.r ?_
 refine oA 6 t0 ?_
 replace hF := outK_some hF; obtain ⟨v7, h_5, e6, hF⟩ := hF
 replace hF := obind_some hF; obtain ⟨t7, c7, hF⟩ := hF
 have c7 := avBool_some c7
 subst c7
 refine WL.b (some 7) (.bool t7) h_5 e6 ?_
 refine oA 5 (.bool t7) ?_
 refine oV [(0, t0), (1, .int .i64 t1), (5, .bool t7)] (n4 ?_)
 cases t7 with
 | true =>
  refine oT hF fun hF => ?_
  refine oG fun n8 => W.r ?_
  refine oA 4 (.int .i64 1) ?_
  refine oV [(4, .int .i64 1)] (n8 (oY (q3 (q2 ?_))))
  exact lZ hF [.tmp 4] [.int .i64 1] (rT res_nil)
 | false =>
  refine oU hF fun hF => ?_
  refine oG fun n9 => W.r ?_
  refine oA 9 t0 ?_
  refine oCb hc 10 hF fun t10 h_10 hF => ?_
  refine oB 11 hF fun t11 hF => ?_
  refine oA 8 (.bool t11) ?_
  refine oV [(1, .int .i64 t1), (8, .bool t11)] (n9 ?_)
  cases t11 with
  | true =>
   refine oT hF fun hF => ?_
   refine oG fun n14 => W.r ?_
   refine oA 4 (.int .i64 40) ?_
   refine oV [(4, .int .i64 40)] (n14 (oY (q3 (q2 ?_))))
   exact lZ hF [.tmp 4] [.int .i64 40] (rT res_nil)
  | false =>
   refine oU hF fun hF => ?_
   refine oG fun n15 => W.r ?_
   refine oA 13 (.int .i64 t1) ?_
   refine oCb hc 14 hF fun t14 h_16 hF => ?_
   refine oB 15 hF fun t15 hF => ?_
   refine oA 12 (.bool t15) ?_
   refine oV [(12, .bool t15)] (n15 ?_)
   cases t15 with
   | true =>
    refine oT hF fun hF => ?_
    refine oG fun n20 => W.r ?_
    refine oA 4 (.int .i64 2) ?_
    refine oV [(4, .int .i64 2)] (n20 (oY (q3 (q2 ?_))))
    exact lZ hF [.tmp 4] [.int .i64 2] (rT res_nil)
   | false =>
    refine oU hF fun hF => ?_
    refine oZ (n3 (n2 ?_))
    refine oG fun n21 => W.r ?_
    refine oA 4 (.int .i64 0) ?_
    refine oV [(4, .int .i64 0)] (n21 (oY ?_))
    exact lZ hF [.tmp 4] [.int .i64 0] (rT res_nil)
noncomputable def disk_Disk_change (call : CallF) (_ : Nat) (t0 : AV) (t1 : Int) (t2 : List AV) (h : AHeap) : R :=
 outK (opBox h 114 (some (.agg t2))) fun v5 h_2 =>
 obind (nilC t0) fun t10 =>
 obind (fldP 0 t10) fun t11 =>
 obind (idxA 32 5 t11 t1) fun t12 =>
 obind (nilC t12) fun t14 =>
 obind (fldP 2 t14) fun t15 =>
 obind (ldRow h_2 3 v5) fun t16 =>
 outK (bldSl Try.prog h_2 79 1 [(0, .agg t16)]) fun v17 h_12 =>
 callN (call 56 [t15, v17] h_12) fun _ h_14 =>
 obind (nilC t12) fun t21 =>
 obind (fldP 4 t21) fun t22 =>
 obind (ldCell h_14 t22) fun v23 =>
 obind (ldRow h_14 3 v5) fun t24 =>
 outK (bldSl Try.prog h_14 79 1 [(0, .agg t24)]) fun v25 h_21 =>
 chk (true && (reLoad Try.prog h_21 79 t22 v23 && true)) <|
 outK (opAppend Try.prog h_21 79 79 v23 v25) fun v26 h_24 =>
 obind (nilC t12) fun t27 =>
 obind (fldP 4 t27) fun t28 =>
 obind (stRow h_24 1 (AV.cells v26) t28) fun h_28 =>
 callN (call 57 [t0] h_28) fun _ h_31 =>
 some (.ret (.int .i64 0), h_31)
set_option maxHeartbeats 4000000 in
set_option maxRecDepth 20000 in
theorem disk_Disk_change_ok {call : CallF} (hc : SaysAll Try.prog call) {n : Nat} {t0 : AV} {t1 : Int} {t2 : List AV} {h : AHeap} {rR : ARes} {hR : AHeap} (hF : disk_Disk_change call n t0 t1 t2 h = some (rR, hR)) : Says Try.prog 48 [t0, .int .i64 t1, .agg t2] h rR hR := by
 unfold disk_Disk_change at hF
 refine sO Try.func48 fun w0 m0 => ?_
 refine wW [(0, t0), (1, .int .i64 t1), (2, .agg t2)] ?_
 refine oG fun n1 => W.r ?_
 refine oK 5 hF fun v5 h_2 hF => ?_
 refine oA 6 (.int .i64 0) ?_
 refine oV [(0, t0), (1, .int .i64 t1), (5, v5)] (n1 ?_)
 refine oG fun n4 => W.r ?_
 refine oA 8 t0 ?_
 refine oA 9 (.int .i64 t1) ?_
 refine oC0 10 hF fun t10 hF => ?_
 refine oF 11 84 0 hF fun t11 hF => ?_
 refine oQ 12 82 81 .i64 hF fun t12 hF => ?_
 refine oA 7 t12 ?_
 refine oV [(0, t0), (5, v5), (7, t12)] (n4 ?_)
 refine oG fun n8 => ?_
 refine W.draw (by kernel_rfl) (hc.ok w0) (plan := [0, 1, 2, 3, 4, 5]) (by kernel_rfl) (by kernel_rfl) (by kernel_rfl) ?_
 refine WD.a 0 (some 13) t12 h_2 ?_
 obtain ⟨t14, e9, hF⟩ := obind_some hF
 refine WD.b 0 (some 14) t14 h_2 (nil_chk (h := h_2) e9) ?_
 obtain ⟨t15, e10, hF⟩ := obind_some hF
 refine WD.b 0 (some 15) t15 h_2 (field_ptr (P := Try.prog) (h := h_2) (s := 81) (f := 1) (by kernel_rfl) e10) ?_
 obtain ⟨t16, e11, hF⟩ := obind_some hF
 refine WD.b 1 (some 16) (.agg t16) h_2 (load_row (P := Try.prog) (h := h_2) (t := 114) (by kernel_rfl) (by kernel_rfl) e11) ?_
 obtain ⟨v17, h_12, e13, hF⟩ := outK_some hF
 refine WD.val (d := (some 17)) (v := v17) (h' := h_12) (by kernel_rfl) (by kernel_rfl) (Eq.trans (by kernel_rfl) e13) (k := 2) (by kernel_rfl) (fun _ => (by kernel_rfl)) (by decide) ?_
 obtain ⟨r18, h_14, e15, hF⟩ := callN_some hF
 refine WD.call (d := (some 18)) (by kernel_rfl) (by kernel_rfl) (by kernel_rfl) e15 (k := 2) (by kernel_rfl) (fun _ => (by kernel_rfl)) (by decide) ?_
 refine WD.nil ?_
 refine gW [(0, t0), (5, v5), (7, t12)] (n8 ?_)
 refine oG fun n16 => ?_
 refine W.draw (by kernel_rfl) (hc.ok w0) (plan := [0, 1, 2, 3, 4, 5, 6, 7, 8, 9, 10]) (by kernel_rfl) (by kernel_rfl) (by kernel_rfl) ?_
 refine WD.a 0 (some 19) t12 h_14 ?_
 refine WD.a 0 (some 20) t12 h_14 ?_
 obtain ⟨t21, e17, hF⟩ := obind_some hF
 refine WD.b 0 (some 21) t21 h_14 (nil_chk (h := h_14) e17) ?_
 obtain ⟨t22, e18, hF⟩ := obind_some hF
 refine WD.b 0 (some 22) t22 h_14 (field_ptr (P := Try.prog) (h := h_14) (s := 81) (f := 2) (by kernel_rfl) e18) ?_
 obtain ⟨v23, e19, hF⟩ := obind_some hF
 refine WD.b 1 (some 23) v23 h_14 (load_cell (P := Try.prog) (h := h_14) (t := 79) (by kernel_rfl) e19) ?_
 obtain ⟨t24, e20, hF⟩ := obind_some hF
 refine WD.b 1 (some 24) (.agg t24) h_14 (load_row (P := Try.prog) (h := h_14) (t := 114) (by kernel_rfl) (by kernel_rfl) e20) ?_
 obtain ⟨v25, h_21, e22, hF⟩ := outK_some hF
 obtain ⟨k23, hF⟩ := chk_some hF
 refine WD.val (d := (some 25)) (v := v25) (h' := h_21) (by kernel_rfl) (by kernel_rfl) (Eq.trans (by kernel_rfl) e22) (k := 2) (by kernel_rfl) (fun _ => (Eq.trans (by kernel_rfl) k23)) (by decide) ?_
 obtain ⟨v26, h_24, e25, hF⟩ := outK_some hF
 refine WD.val (d := (some 26)) (v := v26) (h' := h_24) (by kernel_rfl) (by kernel_rfl) (Eq.trans (by kernel_rfl) e25) (k := 2) (by kernel_rfl) (fun _ => (by kernel_rfl)) (by decide) ?_
 obtain ⟨t27, e26, hF⟩ := obind_some hF
 refine WD.b 0 (some 27) t27 h_24 (nil_chk (h := h_24) e26) ?_
 obtain ⟨t28, e27, hF⟩ := obind_some hF
 refine WD.b 0 (some 28) t28 h_24 (field_ptr (P := Try.prog) (h := h_24) (s := 81) (f := 2) (by kernel_rfl) e27) ?_
 obtain ⟨h_28, e29, hF⟩ := obind_some hF
 refine WD.eff (h' := h_28) (by kernel_rfl) (by kernel_rfl) (Eq.trans (by kernel_rfl) (store_row (P := Try.prog) (h := h_24) (t := 79) (v := v26) (by kernel_rfl) (by kernel_rfl) e29)) (k := 2) (by kernel_rfl) (fun _ => (by kernel_rfl)) (by decide) ?_
 refine WD.nil ?_
 refine gW [(0, t0)] (n16 ?_)
 refine oG fun n30 => W.r ?_
 refine oA 29 t0 ?_
 refine oC hc (some 30) hF fun r30 h_31 hF => ?_
 refine oV [] (n30 ?_)
 refine oG fun n33 => W.r ?_
 refine oA 6 (.int .i64 0) ?_
 refine oV [(6, .int .i64 0)] (n33 (oY ?_))
 exact lZ hF [.tmp 6] [.int .i64 0] (rT res_nil)
noncomputable def disk_content_do_L0b (t0 : AV) (t1 : AV) (t7 : Int) (k4 : AHeap → R) (self : Int → AHeap → R) (t8 : Int) (h_7 : AHeap) : R :=
 lett (decide (t8 < t7)) fun (t9 : Bool) =>
 ifB t9
 (
  obind (idxP 3 t1 t8) fun t10 =>
  obind (ldRow h_7 3 t10) fun t11 =>
  lett (newH h_7 114 [.int .i64 0, .str 0 0, .int .i64 0]) fun h_16 =>
  obind (stRow h_16 3 t11 (newP h_7)) fun h_18 =>
  obind (ldCell h_18 (AV.ptr (AHeap.next h_7) 0)) fun v13 =>
  obind (avInt .i64 v13) fun t13 =>
  lett ((t13 : Int) == 0) fun (t15 : Bool) =>
  lett (fun  (h_27 : AHeap) =>
   lett (IntKind.i64.wrap (t8 + 1)) fun (t46 : Int) =>
   self t46 h_27) fun k26 =>
  ifB t15
  (
   obind (nilC t0) fun t17 =>
   obind (fldP 0 t17) fun t18 =>
   obind (stRow h_18 1 [.bool true] t18) fun h_32 =>
   obind (nilC t0) fun t21 =>
   obind (fldP 1 t21) fun t22 =>
   obind (ldCell h_32 t22) fun v23 =>
   obind (ldCell h_32 (AV.ptr (AHeap.next h_7) 1)) fun v25 =>
   obind (avStr v25) fun t25 =>
   outK (opAppend Try.prog h_32 37 9 v23 (strA t25)) fun v26 h_39 =>
   obind (nilC t0) fun t27 =>
   obind (fldP 1 t27) fun t28 =>
   obind (stRow h_39 1 (AV.cells v26) t28) fun h_43 =>
   k26 h_43)
  (
   lett ((t13 : Int) == 1) fun (t30 : Bool) =>
   lett (fun  (h_48 : AHeap) =>
    k26 h_48) fun k47 =>
   ifB t30
   (
    obind (nilC t0) fun t33 =>
    obind (fldP 1 t33) fun t34 =>
    obind (ldCell h_18 t34) fun v35 =>
    obind (ldCell h_18 (AV.ptr (AHeap.next h_7) 2)) fun v37 =>
    obind (avInt .i64 v37) fun t37 =>
    outK (sliceA Try.prog h_18 37 v35 none (some (.int .i64 t37))) fun v38 h_54 =>
    obind (nilC t0) fun t39 =>
    obind (fldP 1 t39) fun t40 =>
    obind (stRow h_54 1 (AV.cells v38) t40) fun h_58 =>
    k47 h_58)
   (
    lett ((t13 : Int) == 2) fun (t42 : Bool) =>
    lett (fun  (h_63 : AHeap) =>
     k47 h_63) fun k62 =>
    ifB t42
    (
     obind (nilC t0) fun t45 =>
     obind (stRow h_18 2 ([.bool false, .nsl] : List AV) t45) fun h_65 =>
     k62 h_65)
    (
     k62 h_18))))
 (
  k4 h_7)
noncomputable def disk_content_do_L0 (t0 : AV) (t1 : AV) (t7 : Int) (k4 : AHeap → R) : Nat → Int → AHeap → R := iterR (fun _ _ => none) (disk_content_do_L0b t0 t1 t7 k4)
theorem disk_content_do_L0_s (t0 : AV) (t1 : AV) (t7 : Int) (k4 : AHeap → R) (m : Nat) : disk_content_do_L0 t0 t1 t7 k4 (m + 1) = disk_content_do_L0b t0 t1 t7 k4 (disk_content_do_L0 t0 t1 t7 k4 m) := rfl
noncomputable def disk_content_do (_ : CallF) (n : Nat) (t0 : AV) (t1 : AV) (h : AHeap) : R :=
 obind (lenL t1) fun t7 =>
 lett (fun  (h_5 : AHeap) =>
  some (.ret (.tup []), h_5)) fun k4 =>
 disk_content_do_L0 t0 t1 t7 k4 n 0 h
set_option maxHeartbeats 4000000 in
set_option maxRecDepth 20000 in
theorem disk_content_do_ok {call : CallF} (hc : SaysAll Try.prog call) {n : Nat} {t0 : AV} {t1 : AV} {h : AHeap} {rR : ARes} {hR : AHeap} (hF : disk_content_do call n t0 t1 h = some (rR, hR)) : Says Try.prog 56 [t0, t1] h rR hR := by
 unfold disk_content_do at hF
 refine sO Try.func56 fun w0 m0 => ?_
 refine wW [(0, t0), (1, t1)] ?_
 refine oG fun n1 => W.r ?_
 refine oA 6 t1 ?_
 refine oM 7 79 114 hF fun t7 hF => ?_
 refine oA 8 (.int .i64 0) ?_
 refine oV [(0, t0), (6, t1), (7, .int .i64 t7), (8, .int .i64 0)] (n1 ?_)
 obtain ⟨k4, e4, hF⟩ := lett_some hF
 have J4 : ∀  (h_5 : AHeap), k4 h_5 = some (rR, hR) → Go w0 m0 (Func.ntmps Try.f56) (Fin Try.prog Try.f56 w0 m0 rR hR .normal) [] [] h_5 := by
  intro  h_5 hF
  rw [e4] at hF
  exact lY hF [] [] res_nil
 refine W.blockK (by kernel_rfl) (fun K3 n3 s3 o3 q3 p3 => ?_)
 refine W.loopK (by kernel_rfl) (fun I6 K6 b6 n6 e6 q6 p6 => ?_)
 have L6 : ∀ (m : Nat) (t8 : Int) (h_7 : AHeap), disk_content_do_L0 t0 t1 t7 k4 m t8 h_7 = some (rR, hR) → Go w0 m0 (Func.ntmps Try.f56) I6 [(0, t0), (6, t1), (7, .int .i64 t7), (8, .int .i64 t8)] [] h_7 := by
  intro m
  induction m with
  | zero => intro t8 h_7 hF; cases hF
  | succ m ih6 =>
   intro t8 h_7 hF
   rw [disk_content_do_L0_s] at hF; unfold disk_content_do_L0b at hF
   refine b6 ?_
   refine oG fun n8 => W.r ?_
   refine oB 9 hF fun t9 hF => ?_
   refine oV [(0, t0), (6, t1), (7, .int .i64 t7), (8, .int .i64 t8), (9, .bool t9)] (n8 ?_)
   refine W.s (fun K10 n10 e10 q10 p10 => ?_)
   cases t9 with
   | true =>
    refine oT hF fun hF => ?_
    refine oZ (n10 ?_)
    refine oG fun n11 => ?_
    refine W.blockK (by kernel_rfl) (fun K12 n12 s12 o12 q12 p12 => ?_)
    refine oG fun n13 => W.r ?_
    refine oP 10 79 114 .i64 hF fun t10 hF => ?_
    refine oR 11 114 hF fun t11 hF => ?_
    refine oN 5 hF fun h_16 hF => ?_
    refine oW 114 (.agg t11) hF fun h_18 hF => ?_
    refine oV [(0, t0), (5, (newP h_7)), (6, t1), (7, .int .i64 t7), (8, .int .i64 t8)] (n13 ?_)
    refine oG fun n20 => W.r ?_
    refine oA 12 (AV.ptr (AHeap.next h_7) 0) ?_
    refine oLi 13 112 hF fun t13 hF => ?_
    refine oV [(0, t0), (5, (newP h_7)), (6, t1), (7, .int .i64 t7), (8, .int .i64 t8), (13, .int .i64 t13)] (n20 ?_)
    refine W.blockK (by kernel_rfl) (fun K23 n23 s23 o23 q23 p23 => ?_)
    refine oG fun n24 => W.r ?_
    refine oB 15 hF fun t15 hF => ?_
    refine oA 14 (.bool t15) ?_
    refine oV [(0, t0), (5, (newP h_7)), (6, t1), (7, .int .i64 t7), (8, .int .i64 t8), (13, .int .i64 t13), (14, .bool t15)] (n24 ?_)
    obtain ⟨k26, e26, hF⟩ := lett_some hF
    have J26 : ∀  (h_27 : AHeap), k26 h_27 = some (rR, hR) → Go w0 m0 (Func.ntmps Try.f56) (K23 .normal) [(0, t0), (6, t1), (7, .int .i64 t7), (8, .int .i64 t8)] [] h_27 := by
     intro  h_27 hF
     rw [e26] at hF
     refine n23 (n12 (n11 (W.r ?_)))
     refine oI 46 .i64 hF fun t46 hF => ?_
     refine oA 8 (.int .i64 t46) ?_
     refine oV [(0, t0), (6, t1), (7, .int .i64 t7), (8, .int .i64 t46)] (n6 ?_)
     exact gW _ (ih6 _ _ hF)
    cases t15 with
    | true =>
     refine oT hF fun hF => ?_
     refine oG fun n29 => W.r ?_
     refine oA 16 t0 ?_
     refine oC0 17 hF fun t17 hF => ?_
     refine oF 18 78 0 hF fun t18 hF => ?_
     refine oW 4 (.bool true) hF fun h_32 hF => ?_
     refine oV [(0, t0), (5, (newP h_7)), (6, t1), (7, .int .i64 t7), (8, .int .i64 t8)] (n29 ?_)
     refine W.draw (by kernel_rfl) (hc.ok w0) (plan := [0, 1, 2, 3, 4, 5, 6, 7, 8, 9, 10]) (by kernel_rfl) (by kernel_rfl) (by kernel_rfl) ?_
     refine WD.a 0 (some 19) t0 h_32 ?_
     refine WD.a 0 (some 20) t0 h_32 ?_
     obtain ⟨t21, e34, hF⟩ := obind_some hF
     refine WD.b 0 (some 21) t21 h_32 (nil_chk (h := h_32) e34) ?_
     obtain ⟨t22, e35, hF⟩ := obind_some hF
     refine WD.b 0 (some 22) t22 h_32 (field_ptr (P := Try.prog) (h := h_32) (s := 78) (f := 1) (by kernel_rfl) e35) ?_
     obtain ⟨v23, e36, hF⟩ := obind_some hF
     refine WD.b 1 (some 23) v23 h_32 (load_cell (P := Try.prog) (h := h_32) (t := 37) (by kernel_rfl) e36) ?_
     refine WD.a 0 (some 24) (AV.ptr (AHeap.next h_7) 1) h_32 ?_
     replace hF := obind_some hF; obtain ⟨v25, e37, hF⟩ := hF
     replace hF := obind_some hF; obtain ⟨t25, c38, hF⟩ := hF
     have c38 := avStr_some c38
     subst c38
     refine WD.b 1 (some 25) (strA t25) h_32 (load_cell (P := Try.prog) (h := h_32) (t := 9) (by kernel_rfl) e37) ?_
     obtain ⟨v26, h_39, e40, hF⟩ := outK_some hF
     refine WD.val (d := (some 26)) (v := v26) (h' := h_39) (by kernel_rfl) (by kernel_rfl) (Eq.trans (by kernel_rfl) e40) (k := 2) (by kernel_rfl) (fun _ => (by kernel_rfl)) (by decide) ?_
     obtain ⟨t27, e41, hF⟩ := obind_some hF
     refine WD.b 0 (some 27) t27 h_39 (nil_chk (h := h_39) e41) ?_
     obtain ⟨t28, e42, hF⟩ := obind_some hF
     refine WD.b 0 (some 28) t28 h_39 (field_ptr (P := Try.prog) (h := h_39) (s := 78) (f := 1) (by kernel_rfl) e42) ?_
     obtain ⟨h_43, e44, hF⟩ := obind_some hF
     refine WD.eff (h' := h_43) (by kernel_rfl) (by kernel_rfl) (Eq.trans (by kernel_rfl) (store_row (P := Try.prog) (h := h_39) (t := 37) (v := v26) (by kernel_rfl) (by kernel_rfl) e44)) (k := 2) (by kernel_rfl) (fun _ => (by kernel_rfl)) (by decide) ?_
     refine WD.nil ?_
     refine gW [(0, t0), (6, t1), (7, .int .i64 t7), (8, .int .i64 t8)] ?_
     exact gW _ (J26 _ hF)
    | false =>
     refine oU hF fun hF => ?_
     refine oG fun n45 => W.r ?_
     refine oB 30 hF fun t30 hF => ?_
     refine oA 29 (.bool t30) ?_
     refine oV [(0, t0), (5, (newP h_7)), (6, t1), (7, .int .i64 t7), (8, .int .i64 t8), (13, .int .i64 t13), (29, .bool t30)] (n45 ?_)
     obtain ⟨k47, e47, hF⟩ := lett_some hF
     have J47 : ∀  (h_48 : AHeap), k47 h_48 = some (rR, hR) → Go w0 m0 (Func.ntmps Try.f56) (K23 .normal) [(0, t0), (6, t1), (7, .int .i64 t7), (8, .int .i64 t8)] [] h_48 := by
      intro  h_48 hF
      rw [e47] at hF
      exact gW _ (J26 _ hF)
     cases t30 with
     | true =>
      refine oT hF fun hF => ?_
      refine W.draw (by kernel_rfl) (hc.ok w0) (plan := [0, 1, 2, 3, 4, 5, 6, 7, 8, 9, 10]) (by kernel_rfl) (by kernel_rfl) (by kernel_rfl) ?_
      refine WD.a 0 (some 31) t0 h_18 ?_
      refine WD.a 0 (some 32) t0 h_18 ?_
      obtain ⟨t33, e49, hF⟩ := obind_some hF
      refine WD.b 0 (some 33) t33 h_18 (nil_chk (h := h_18) e49) ?_
      obtain ⟨t34, e50, hF⟩ := obind_some hF
      refine WD.b 0 (some 34) t34 h_18 (field_ptr (P := Try.prog) (h := h_18) (s := 78) (f := 1) (by kernel_rfl) e50) ?_
      obtain ⟨v35, e51, hF⟩ := obind_some hF
      refine WD.b 1 (some 35) v35 h_18 (load_cell (P := Try.prog) (h := h_18) (t := 37) (by kernel_rfl) e51) ?_
      refine WD.a 0 (some 36) (AV.ptr (AHeap.next h_7) 2) h_18 ?_
      replace hF := obind_some hF; obtain ⟨v37, e52, hF⟩ := hF
      replace hF := obind_some hF; obtain ⟨t37, c53, hF⟩ := hF
      have c53 := avInt_some c53
      subst c53
      refine WD.b 1 (some 37) (.int .i64 t37) h_18 (load_cell (P := Try.prog) (h := h_18) (t := 3) (by kernel_rfl) e52) ?_
      obtain ⟨v38, h_54, e55, hF⟩ := outK_some hF
      refine WD.b 0 (some 38) v38 h_54 e55 ?_
      obtain ⟨t39, e56, hF⟩ := obind_some hF
      refine WD.b 0 (some 39) t39 h_54 (nil_chk (h := h_54) e56) ?_
      obtain ⟨t40, e57, hF⟩ := obind_some hF
      refine WD.b 0 (some 40) t40 h_54 (field_ptr (P := Try.prog) (h := h_54) (s := 78) (f := 1) (by kernel_rfl) e57) ?_
      obtain ⟨h_58, e59, hF⟩ := obind_some hF
      refine WD.eff (h' := h_58) (by kernel_rfl) (by kernel_rfl) (Eq.trans (by kernel_rfl) (store_row (P := Try.prog) (h := h_54) (t := 37) (v := v38) (by kernel_rfl) (by kernel_rfl) e59)) (k := 2) (by kernel_rfl) (fun _ => (by kernel_rfl)) (by decide) ?_
      refine WD.nil ?_
      refine gW [(0, t0), (6, t1), (7, .int .i64 t7), (8, .int .i64 t8)] ?_
      exact gW _ (J47 _ hF)
     | false =>
      refine oU hF fun hF => ?_
      refine oG fun n60 => W.r ?_
      refine oB 42 hF fun t42 hF => ?_
      refine oA 41 (.bool t42) ?_
      refine oV [(0, t0), (6, t1), (7, .int .i64 t7), (8, .int .i64 t8), (41, .bool t42)] (n60 ?_)
      obtain ⟨k62, e62, hF⟩ := lett_some hF
      have J62 : ∀  (h_63 : AHeap), k62 h_63 = some (rR, hR) → Go w0 m0 (Func.ntmps Try.f56) (K23 .normal) [(0, t0), (6, t1), (7, .int .i64 t7), (8, .int .i64 t8)] [] h_63 := by
       intro  h_63 hF
       rw [e62] at hF
       exact gW _ (J47 _ hF)
      cases t42 with
      | true =>
       refine oT hF fun hF => ?_
       refine W.r ?_
       refine oA 43 t0 ?_
       refine oA 44 (.agg ([.bool false, .nsl] : List AV)) ?_
       refine oC0 45 hF fun t45 hF => ?_
       refine oW 78 (.agg ([.bool false, .nsl] : List AV)) hF fun h_65 hF => ?_
       refine oV [(0, t0), (6, t1), (7, .int .i64 t7), (8, .int .i64 t8)] ?_
       exact gW _ (J62 _ hF)
      | false =>
       refine oU hF fun hF => ?_
       refine oZ ?_
       exact gW _ (J62 _ hF)
   | false =>
    refine oU hF fun hF => ?_
    refine W.exit (by kernel_rfl) ?_
    refine e10 (e6 ?_)
    refine s3 (by kernel_rfl) ?_
    exact gW _ (J4 _ hF)
 exact gW _ (L6 _ _ _ hF)
noncomputable def disk_Disk_step (_ : CallF) (_ : Nat) (t0 : AV) (h : AHeap) : R :=
 obind (nilC t0) fun t3 =>
 obind (fldP 161 t3) fun t4 =>
 obind (ldCell h t4) fun v5 =>
 obind (avInt .i64 v5) fun t5 =>
 lett (IntKind.i64.wrap (t5 + 1)) fun (t6 : Int) =>
 obind (nilC t0) fun t7 =>
 obind (fldP 161 t7) fun t8 =>
 obind (stRow h 1 [.int .i64 t6] t8) fun h_9 =>
 obind (nilC t0) fun t10 =>
 obind (fldP 160 t10) fun t11 =>
 obind (ldCell h_9 t11) fun v12 =>
 obind (avInt .i64 v12) fun t12 =>
 lett (decide (t12 > 0)) fun (t13 : Bool) =>
 lett (fun  (h_18 : AHeap) =>
  some (.ret (.tup []), h_18)) fun k17 =>
 ifB t13
 (
  obind (nilC t0) fun t15 =>
  obind (fldP 160 t15) fun t16 =>
  obind (ldCell h_9 t16) fun v17 =>
  obind (avInt .i64 v17) fun t17 =>
  lett (IntKind.i64.wrap (t17 - 1)) fun (t18 : Int) =>
  obind (nilC t0) fun t19 =>
  obind (fldP 160 t19) fun t20 =>
  obind (stRow h_9 1 [.int .i64 t18] t20) fun h_26 =>
  k17 h_26)
 (
  k17 h_9)
set_option maxHeartbeats 4000000 in
set_option maxRecDepth 20000 in
theorem disk_Disk_step_ok {call : CallF} (_ : SaysAll Try.prog call) {n : Nat} {t0 : AV} {h : AHeap} {rR : ARes} {hR : AHeap} (hF : disk_Disk_step call n t0 h = some (rR, hR)) : Says Try.prog 57 [t0] h rR hR := by
 unfold disk_Disk_step at hF
 refine sO Try.func57 fun w0 m0 => ?_
 refine wW [(0, t0)] ?_
 refine oG fun n1 => W.r ?_
 refine oA 2 t0 ?_
 refine oC0 3 hF fun t3 hF => ?_
 refine oF 4 84 2 hF fun t4 hF => ?_
 refine oLi 5 3 hF fun t5 hF => ?_
 refine oI 6 .i64 hF fun t6 hF => ?_
 refine oC0 7 hF fun t7 hF => ?_
 refine oF 8 84 2 hF fun t8 hF => ?_
 refine oW 3 (.int .i64 t6) hF fun h_9 hF => ?_
 refine oV [(0, t0)] (n1 ?_)
 refine oG fun n11 => W.r ?_
 refine oA 9 t0 ?_
 refine oC0 10 hF fun t10 hF => ?_
 refine oF 11 84 1 hF fun t11 hF => ?_
 refine oLi 12 3 hF fun t12 hF => ?_
 refine oB 13 hF fun t13 hF => ?_
 refine oV [(0, t0), (13, .bool t13)] (n11 ?_)
 obtain ⟨k17, e17, hF⟩ := lett_some hF
 have J17 : ∀  (h_18 : AHeap), k17 h_18 = some (rR, hR) → Go w0 m0 (Func.ntmps Try.f57) (Fin Try.prog Try.f57 w0 m0 rR hR .normal) [] [] h_18 := by
  intro  h_18 hF
  rw [e17] at hF
  exact lY hF [] [] res_nil
 cases t13 with
 | true =>
  refine oT hF fun hF => ?_
  refine W.r ?_
  refine oA 14 t0 ?_
  refine oC0 15 hF fun t15 hF => ?_
  refine oF 16 84 1 hF fun t16 hF => ?_
  refine oLi 17 3 hF fun t17 hF => ?_
  refine oI 18 .i64 hF fun t18 hF => ?_
  refine oC0 19 hF fun t19 hF => ?_
  refine oF 20 84 1 hF fun t20 hF => ?_
  refine oW 3 (.int .i64 t18) hF fun h_26 hF => ?_
  refine oV [] ?_
  exact gW _ (J17 _ hF)
 | false =>
  refine oU hF fun hF => ?_
  refine oZ ?_
  exact gW _ (J17 _ hF)
noncomputable def disk_isFile (_ : CallF) (_ : Nat) (t0 : Int) (h : AHeap) : R :=
 lett (decide (t0 ≥ 0)) fun (t4 : Bool) =>
 lett (fun (t8 : Bool) (h_4 : AHeap) =>
  some (.ret (.bool t8), h_4)) fun j8 =>
 ifB t4
 (
  lett (decide (t0 < 32)) fun (t7 : Bool) =>
  j8 t7 h)
 (
  j8 false h)
set_option maxHeartbeats 4000000 in
set_option maxRecDepth 20000 in
theorem disk_isFile_ok {call : CallF} (_ : SaysAll Try.prog call) {n : Nat} {t0 : Int} {h : AHeap} {rR : ARes} {hR : AHeap} (hF : disk_isFile call n t0 h = some (rR, hR)) : Says Try.prog 52 [.int .i64 t0] h rR hR := by
 unfold disk_isFile at hF
 refine sO Try.func52 fun w0 m0 => ?_
 refine wW [(0, .int .i64 t0)] ?_
 refine oG fun n1 => W.r ?_
 refine oA 2 (.bool false) ?_
 refine oV [(0, .int .i64 t0)] (n1 ?_)
 refine W.s (fun K2 n2 e2 q2 p2 => ?_)
 refine W.r ?_
 refine oA 3 (.int .i64 t0) ?_
 refine oB 4 hF fun t4 hF => ?_
 refine oA 5 (.bool t4) ?_
 obtain ⟨j8, e5, hF⟩ := lett_some hF
 have J6 : ∀ (t8 : Bool) (h_4 : AHeap), j8 t8 h_4 = some (rR, hR) → WL Try.prog w0 m0 (Func.ntmps Try.f52) (Code.ops (Code.p1 (Code.p2 (codeOf Try.f52)))) 6 K2 [(8, .bool t8)] [] h_4 := by
  intro t8 h_4 hF
  rw [e5] at hF
  refine oA 2 (.bool t8) ?_
  refine oV [(2, .bool t8)] (n2 (oY ?_))
  exact lZ hF [.tmp 2] [.bool t8] (rT res_nil)
 cases t4 with
 | true =>
  replace hF := ifB_t hF
  refine oA 6 (.int .i64 t0) ?_
  refine oB 7 hF fun t7 hF => ?_
  refine oA 8 (.bool t7) ?_
  exact lW _ (J6 _ _ hF)
 | false =>
  replace hF := ifB_f hF
  refine WL.o (some 6) ?_
  refine WL.o (some 7) ?_
  refine oA 8 (.bool false) ?_
  exact lW _ (J6 _ _ hF)
noncomputable def disk_Disk_Read (call : CallF) (_ : Nat) (t0 : AV) (t1 : Int) (h : AHeap) : R :=
 callN (call 47 [t0, .int .i64 t1] h) fun r10 h_4 =>
 obind (avInt .i64 r10) fun t10 =>
 lett ((t10 : Int) != 0) fun (t12 : Bool) =>
 ifB t12
 (
  some (.ret (.tup [strA ([] : Bytes), .int .i64 t10]), h_4))
 (
  obind (nilC t0) fun t16 =>
  obind (fldP 0 t16) fun t17 =>
  obind (idxA 32 5 t17 t1) fun t18 =>
  obind (fldP 2 t18) fun t19 =>
  obind (nilC t19) fun t21 =>
  obind (fldP 0 t21) fun t22 =>
  obind (ldCell h_4 t22) fun v23 =>
  obind (avBool v23) fun t23 =>
  lett (!t23) fun (t24 : Bool) =>
  ifB t24
  (
   some (.ret (.tup [strA ([] : Bytes), .int .i64 4]), h_4))
  (
   obind (nilC t19) fun t26 =>
   obind (fldP 1 t26) fun t27 =>
   obind (ldCell h_4 t27) fun v28 =>
   outK (opConv Try.prog h_4 37 9 (some v28)) fun v29 h_27 =>
   obind (avStr v29) fun t29 =>
   some (.ret (.tup [strA t29, .int .i64 0]), h_27)))
set_option maxHeartbeats 4000000 in
set_option maxRecDepth 20000 in
theorem disk_Disk_Read_ok {call : CallF} (hc : SaysAll Try.prog call) {n : Nat} {t0 : AV} {t1 : Int} {h : AHeap} {rR : ARes} {hR : AHeap} (hF : disk_Disk_Read call n t0 t1 h = some (rR, hR)) : Says Try.prog 31 [t0, .int .i64 t1] h rR hR := by
 unfold disk_Disk_Read at hF
 refine sO Try.func31 fun w0 m0 => ?_
 refine wW [(0, t0), (1, .int .i64 t1)] ?_
 refine oG fun n1 => W.r ?_
 refine oA 4 (strA ([] : Bytes)) ?_
 refine oA 5 (.int .i64 0) ?_
 refine oV [(0, t0), (1, .int .i64 t1)] (n1 ?_)
 refine oH fun n2 q2 => ?_
 refine oG fun n3 => W.r ?_
 refine oA 8 t0 ?_
 refine oA 9 (.int .i64 t1) ?_
 refine oCi hc 10 hF fun t10 h_4 hF => ?_
 refine oA 6 (.int .i64 t10) ?_
 refine oV [(0, t0), (1, .int .i64 t1), (6, .int .i64 t10)] (n3 ?_)
 refine oG fun n7 => W.r ?_
 refine oA 11 (.int .i64 t10) ?_
 refine oB 12 hF fun t12 hF => ?_
 refine oV [(0, t0), (1, .int .i64 t1), (6, .int .i64 t10), (12, .bool t12)] (n7 ?_)
 cases t12 with
 | true =>
  refine oT hF fun hF => ?_
  refine oG fun n9 => W.r ?_
  refine oA 13 (.int .i64 t10) ?_
  refine oA 4 (strA ([] : Bytes)) ?_
  refine oA 5 (.int .i64 t10) ?_
  refine oV [(4, strA ([] : Bytes)), (5, .int .i64 t10)] (n9 (oY (q2 ?_)))
  exact lZ hF [.tmp 4, .tmp 5] [strA ([] : Bytes), .int .i64 t10] (rT (rT res_nil))
 | false =>
  refine oU hF fun hF => ?_
  refine oZ (n2 ?_)
  refine oG fun n10 => W.r ?_
  refine oA 14 t0 ?_
  refine oA 15 (.int .i64 t1) ?_
  refine oC0 16 hF fun t16 hF => ?_
  refine oF 17 84 0 hF fun t17 hF => ?_
  refine oQ 18 82 81 .i64 hF fun t18 hF => ?_
  refine oF 19 81 1 hF fun t19 hF => ?_
  refine oA 7 t19 ?_
  refine oV [(7, t19)] (n10 ?_)
  refine oH fun n15 q15 => ?_
  refine oG fun n16 => W.r ?_
  refine oA 20 t19 ?_
  refine oC0 21 hF fun t21 hF => ?_
  refine oF 22 78 0 hF fun t22 hF => ?_
  refine oLb 23 4 hF fun t23 hF => ?_
  refine oB 24 hF fun t24 hF => ?_
  refine oV [(7, t19), (24, .bool t24)] (n16 ?_)
  cases t24 with
  | true =>
   refine oT hF fun hF => ?_
   refine oG fun n22 => W.r ?_
   refine oA 4 (strA ([] : Bytes)) ?_
   refine oA 5 (.int .i64 4) ?_
   refine oV [(4, strA ([] : Bytes)), (5, .int .i64 4)] (n22 (oY (q15 ?_)))
   exact lZ hF [.tmp 4, .tmp 5] [strA ([] : Bytes), .int .i64 4] (rT (rT res_nil))
  | false =>
   refine oU hF fun hF => ?_
   refine oZ (n15 ?_)
   refine oG fun n23 => W.r ?_
   refine oA 25 t19 ?_
   refine oC0 26 hF fun t26 hF => ?_
   refine oF 27 78 1 hF fun t27 hF => ?_
   refine oL 28 37 hF fun v28 hF => ?_
   replace hF := outK_some hF; obtain ⟨v29, h_27, e28, hF⟩ := hF
   replace hF := obind_some hF; obtain ⟨t29, c29, hF⟩ := hF
   have c29 := avStr_some c29
   subst c29
   refine WL.b (some 29) (strA t29) h_27 e28 ?_
   refine oA 4 (strA t29) ?_
   refine oA 5 (.int .i64 0) ?_
   refine oV [(4, strA t29), (5, .int .i64 0)] (n23 (oY ?_))
   exact lZ hF [.tmp 4, .tmp 5] [strA t29, .int .i64 0] (rT (rT res_nil))
noncomputable def disk_Disk_Sure (call : CallF) (_ : Nat) (t0 : AV) (t1 : Int) (h : AHeap) : R :=
 outK (opBin Try.prog h .eql 23 true (some t0) (some AV.nilp)) fun v8 h_4 =>
 obind (avBool v8) fun t8 =>
 lett (fun (t13 : Bool) (h_7 : AHeap) =>
  ifB t13
  (
   some (.ret (.tup [strA ([] : Bytes), .bool false]), h_7))
  (
   obind (nilC t0) fun t16 =>
   obind (fldP 0 t16) fun t17 =>
   obind (idxA 32 5 t17 t1) fun t18 =>
   obind (fldP 0 t18) fun t19 =>
   obind (nilC t19) fun t21 =>
   obind (fldP 1 t21) fun t22 =>
   obind (ldCell h_7 t22) fun v23 =>
   obind (nilC t19) fun t26 =>
   obind (fldP 0 t26) fun t27 =>
   obind (ldCell h_7 t27) fun v28 =>
   obind (avBool v28) fun t28 =>
   outK (opConv Try.prog h_7 37 9 (some v23)) fun v24 h_24 =>
   obind (avStr v24) fun t24 =>
   chk (reLoad Try.prog h_24 4 t27 (.bool t28) && (true && true)) <|
   some (.ret (.tup [strA t24, .bool t28]), h_24))) fun j13 =>
 ifB t8
 (
  j13 true h_4)
 (
  callN (call 52 [.int .i64 t1] h_4) fun r11 h_28 =>
  obind (avBool r11) fun t11 =>
  lett (!t11) fun (t12 : Bool) =>
  j13 t12 h_28)
set_option maxHeartbeats 4000000 in
set_option maxRecDepth 20000 in
theorem disk_Disk_Sure_ok {call : CallF} (hc : SaysAll Try.prog call) {n : Nat} {t0 : AV} {t1 : Int} {h : AHeap} {rR : ARes} {hR : AHeap} (hF : disk_Disk_Sure call n t0 t1 h = some (rR, hR)) : Says Try.prog 26 [t0, .int .i64 t1] h rR hR := by
 unfold disk_Disk_Sure at hF
 refine sO Try.func26 fun w0 m0 => ?_
 refine wW [(0, t0), (1, .int .i64 t1)] ?_
 refine oG fun n1 => W.r ?_
 refine oA 4 (strA ([] : Bytes)) ?_
 refine oA 5 (.bool false) ?_
 refine oV [(0, t0), (1, .int .i64 t1)] (n1 ?_)
 refine oH fun n2 q2 => ?_
 refine W.s (fun K3 n3 e3 q3 p3 => ?_)
 refine W.r ?_
 refine oA 7 t0 ?_
 replace hF := outK_some hF; obtain ⟨v8, h_4, e5, hF⟩ := hF
 replace hF := obind_some hF; obtain ⟨t8, c6, hF⟩ := hF
 have c6 := avBool_some c6
 subst c6
 refine WL.b (some 8) (.bool t8) h_4 e5 ?_
 refine oA 9 (.bool t8) ?_
 obtain ⟨j13, e8, hF⟩ := lett_some hF
 have J9 : ∀ (t13 : Bool) (h_7 : AHeap), j13 t13 h_7 = some (rR, hR) → WL Try.prog w0 m0 (Func.ntmps Try.f26) (Code.ops (Code.p1 (Code.p1 (Code.p2 (codeOf Try.f26))))) 7 K3 [(0, t0), (1, .int .i64 t1), (13, .bool t13)] [] h_7 := by
  intro t13 h_7 hF
  rw [e8] at hF
  refine oV [(0, t0), (1, .int .i64 t1), (13, .bool t13)] (n3 ?_)
  cases t13 with
  | true =>
   refine oT hF fun hF => ?_
   refine oG fun n10 => W.r ?_
   refine oA 4 (strA ([] : Bytes)) ?_
   refine oA 5 (.bool false) ?_
   refine oV [(4, strA ([] : Bytes)), (5, .bool false)] (n10 (oY (q2 ?_)))
   exact lZ hF [.tmp 4, .tmp 5] [strA ([] : Bytes), .bool false] (rT (rT res_nil))
  | false =>
   refine oU hF fun hF => ?_
   refine oZ (n2 ?_)
   refine oG fun n11 => W.r ?_
   refine oA 14 t0 ?_
   refine oA 15 (.int .i64 t1) ?_
   refine oC0 16 hF fun t16 hF => ?_
   refine oF 17 84 0 hF fun t17 hF => ?_
   refine oQ 18 82 81 .i64 hF fun t18 hF => ?_
   refine oF 19 81 0 hF fun t19 hF => ?_
   refine oA 6 t19 ?_
   refine oV [(6, t19)] (n11 ?_)
   refine oG fun n16 => ?_
   refine W.draw (by kernel_rfl) (hc.ok w0) (plan := [0, 1, 2, 3, 5, 6, 7, 8, 4, 9, 10]) (by kernel_rfl) (by kernel_rfl) (by kernel_rfl) ?_
   refine WD.a 0 (some 20) t19 h_7 ?_
   obtain ⟨t21, e17, hF⟩ := obind_some hF
   refine WD.b 0 (some 21) t21 h_7 (nil_chk (h := h_7) e17) ?_
   obtain ⟨t22, e18, hF⟩ := obind_some hF
   refine WD.b 0 (some 22) t22 h_7 (field_ptr (P := Try.prog) (h := h_7) (s := 78) (f := 1) (by kernel_rfl) e18) ?_
   obtain ⟨v23, e19, hF⟩ := obind_some hF
   refine WD.b 1 (some 23) v23 h_7 (load_cell (P := Try.prog) (h := h_7) (t := 37) (by kernel_rfl) e19) ?_
   refine WD.a 0 (some 25) t19 h_7 ?_
   obtain ⟨t26, e20, hF⟩ := obind_some hF
   refine WD.b 0 (some 26) t26 h_7 (nil_chk (h := h_7) e20) ?_
   obtain ⟨t27, e21, hF⟩ := obind_some hF
   refine WD.b 0 (some 27) t27 h_7 (field_ptr (P := Try.prog) (h := h_7) (s := 78) (f := 0) (by kernel_rfl) e21) ?_
   replace hF := obind_some hF; obtain ⟨v28, e22, hF⟩ := hF
   replace hF := obind_some hF; obtain ⟨t28, c23, hF⟩ := hF
   have c23 := avBool_some c23
   subst c23
   refine WD.b 1 (some 28) (.bool t28) h_7 (load_cell (P := Try.prog) (h := h_7) (t := 4) (by kernel_rfl) e22) ?_
   replace hF := outK_some hF; obtain ⟨v24, h_24, e25, hF⟩ := hF
   replace hF := obind_some hF; obtain ⟨t24, c26, hF⟩ := hF
   have c26 := avStr_some c26
   subst c26
   obtain ⟨k27, hF⟩ := chk_some hF
   refine WD.val (d := (some 24)) (v := strA t24) (h' := h_24) (by kernel_rfl) (by kernel_rfl) (Eq.trans (by kernel_rfl) e25) (k := 2) (by kernel_rfl) (fun _ => (Eq.trans (by kernel_rfl) k27)) (by decide) ?_
   refine WD.a 0 (some 4) (strA t24) h_24 ?_
   refine WD.a 0 (some 5) (.bool t28) h_24 ?_
   refine WD.nil ?_
   refine gW [(4, strA t24), (5, .bool t28)] (n16 (oY ?_))
   exact lZ hF [.tmp 4, .tmp 5] [strA t24, .bool t28] (rT (rT res_nil))
 cases t8 with
 | true =>
  replace hF := ifB_t hF
  refine WL.o (some 10) ?_
  refine WL.o (some 11) ?_
  refine WL.o (some 12) ?_
  refine oA 13 (.bool true) ?_
  exact lW _ (J9 _ _ hF)
 | false =>
  replace hF := ifB_f hF
  refine oA 10 (.int .i64 t1) ?_
  refine oCb hc 11 hF fun t11 h_28 hF => ?_
  refine oB 12 hF fun t12 hF => ?_
  refine oA 13 (.bool t12) ?_
  exact lW _ (J9 _ _ hF)
noncomputable def disk_Disk_Loose (call : CallF) (_ : Nat) (t0 : AV) (t1 : Int) (h : AHeap) : R :=
 outK (opBin Try.prog h .eql 23 true (some t0) (some AV.nilp)) fun v6 h_4 =>
 obind (avBool v6) fun t6 =>
 lett (fun (t11 : Bool) (h_7 : AHeap) =>
  ifB t11
  (
   some (.ret (.int .i64 0), h_7))
  (
   obind (nilC t0) fun t14 =>
   obind (fldP 0 t14) fun t15 =>
   obind (idxA 32 5 t15 t1) fun t16 =>
   obind (fldP 4 t16) fun t17 =>
   obind (ldCell h_7 t17) fun v18 =>
   obind (lenL v18) fun t19 =>
   some (.ret (.int .i64 t19), h_7))) fun j11 =>
 ifB t6
 (
  j11 true h_4)
 (
  callN (call 52 [.int .i64 t1] h_4) fun r9 h_18 =>
  obind (avBool r9) fun t9 =>
  lett (!t9) fun (t10 : Bool) =>
  j11 t10 h_18)
set_option maxHeartbeats 4000000 in
set_option maxRecDepth 20000 in
theorem disk_Disk_Loose_ok {call : CallF} (hc : SaysAll Try.prog call) {n : Nat} {t0 : AV} {t1 : Int} {h : AHeap} {rR : ARes} {hR : AHeap} (hF : disk_Disk_Loose call n t0 t1 h = some (rR, hR)) : Says Try.prog 28 [t0, .int .i64 t1] h rR hR := by
 unfold disk_Disk_Loose at hF
 refine sO Try.func28 fun w0 m0 => ?_
 refine wW [(0, t0), (1, .int .i64 t1)] ?_
 refine oG fun n1 => W.r ?_
 refine oA 4 (.int .i64 0) ?_
 refine oV [(0, t0), (1, .int .i64 t1)] (n1 ?_)
 refine oH fun n2 q2 => ?_
 refine W.s (fun K3 n3 e3 q3 p3 => ?_)
 refine W.r ?_
 refine oA 5 t0 ?_
 replace hF := outK_some hF; obtain ⟨v6, h_4, e5, hF⟩ := hF
 replace hF := obind_some hF; obtain ⟨t6, c6, hF⟩ := hF
 have c6 := avBool_some c6
 subst c6
 refine WL.b (some 6) (.bool t6) h_4 e5 ?_
 refine oA 7 (.bool t6) ?_
 obtain ⟨j11, e8, hF⟩ := lett_some hF
 have J9 : ∀ (t11 : Bool) (h_7 : AHeap), j11 t11 h_7 = some (rR, hR) → WL Try.prog w0 m0 (Func.ntmps Try.f28) (Code.ops (Code.p1 (Code.p1 (Code.p2 (codeOf Try.f28))))) 7 K3 [(0, t0), (1, .int .i64 t1), (11, .bool t11)] [] h_7 := by
  intro t11 h_7 hF
  rw [e8] at hF
  refine oV [(0, t0), (1, .int .i64 t1), (11, .bool t11)] (n3 ?_)
  cases t11 with
  | true =>
   refine oT hF fun hF => ?_
   refine oG fun n10 => W.r ?_
   refine oA 4 (.int .i64 0) ?_
   refine oV [(4, .int .i64 0)] (n10 (oY (q2 ?_)))
   exact lZ hF [.tmp 4] [.int .i64 0] (rT res_nil)
  | false =>
   refine oU hF fun hF => ?_
   refine oZ (n2 ?_)
   refine oG fun n11 => W.r ?_
   refine oA 12 t0 ?_
   refine oA 13 (.int .i64 t1) ?_
   refine oC0 14 hF fun t14 hF => ?_
   refine oF 15 84 0 hF fun t15 hF => ?_
   refine oQ 16 82 81 .i64 hF fun t16 hF => ?_
   refine oF 17 81 2 hF fun t17 hF => ?_
   refine oL 18 79 hF fun v18 hF => ?_
   refine oM 19 79 114 hF fun t19 hF => ?_
   refine oA 4 (.int .i64 t19) ?_
   refine oV [(4, .int .i64 t19)] (n11 (oY ?_))
   exact lZ hF [.tmp 4] [.int .i64 t19] (rT res_nil)
 cases t6 with
 | true =>
  replace hF := ifB_t hF
  refine WL.o (some 8) ?_
  refine WL.o (some 9) ?_
  refine WL.o (some 10) ?_
  refine oA 11 (.bool true) ?_
  exact lW _ (J9 _ _ hF)
 | false =>
  replace hF := ifB_f hF
  refine oA 8 (.int .i64 t1) ?_
  refine oCb hc 9 hF fun t9 h_18 hF => ?_
  refine oB 10 hF fun t10 hF => ?_
  refine oA 11 (.bool t10) ?_
  exact lW _ (J9 _ _ hF)
noncomputable def disk_Disk_Crash_L0b (call : CallF) (t0 : AV) (t1 : AV) (t2 : Int) (k11 : AHeap → R) (self : Int → AHeap → R) (t11 : Int) (h_20 : AHeap) : R :=
 lett (decide (t11 < 32)) fun (t12 : Bool) =>
 ifB t12
 (
  obind (lenL t1) fun t16 =>
  lett (decide (t11 < t16)) fun (t17 : Bool) =>
  lett (fun (t8 : Int) (h_33 : AHeap) =>
   obind (nilC t0) fun t24 =>
   obind (fldP 0 t24) fun t25 =>
   obind (idxA 32 5 t25 t11) fun t26 =>
   callN (call 38 [t26, .int .i64 t8, .int .i64 t2] h_33) fun _ h_37 =>
   lett (IntKind.i64.wrap (t11 + 1)) fun (t30 : Int) =>
   self t30 h_37) fun k32 =>
  ifB t17
  (
   obind (idxP 1 t1 t11) fun t20 =>
   obind (ldCell h_20 t20) fun v21 =>
   obind (avInt .i64 v21) fun t21 =>
   k32 t21 h_20)
  (
   k32 0 h_20))
 (
  k11 h_20)
noncomputable def disk_Disk_Crash_L0 (call : CallF) (t0 : AV) (t1 : AV) (t2 : Int) (k11 : AHeap → R) : Nat → Int → AHeap → R := iterR (fun _ _ => none) (disk_Disk_Crash_L0b call t0 t1 t2 k11)
theorem disk_Disk_Crash_L0_s (call : CallF) (t0 : AV) (t1 : AV) (t2 : Int) (k11 : AHeap → R) (m : Nat) : disk_Disk_Crash_L0 call t0 t1 t2 k11 (m + 1) = disk_Disk_Crash_L0b call t0 t1 t2 k11 (disk_Disk_Crash_L0 call t0 t1 t2 k11 m) := rfl
noncomputable def disk_Disk_Crash (call : CallF) (n : Nat) (t0 : AV) (t1 : AV) (t2 : Int) (h : AHeap) : R :=
 outK (opBin Try.prog h .eql 23 true (some t0) (some AV.nilp)) fun v10 h_4 =>
 obind (avBool v10) fun t10 =>
 ifB t10
 (
  some (.ret (.int .i64 1), h_4))
 (
  lett (fun  (h_12 : AHeap) =>
   obind (nilC t0) fun t32 =>
   obind (fldP 160 t32) fun t33 =>
   obind (stRow h_12 1 [.int .i64 (-1)] t33) fun h_16 =>
   some (.ret (.int .i64 0), h_16)) fun k11 =>
  disk_Disk_Crash_L0 call t0 t1 t2 k11 n 0 h_4)
set_option maxHeartbeats 4000000 in
set_option maxRecDepth 20000 in
theorem disk_Disk_Crash_ok {call : CallF} (hc : SaysAll Try.prog call) {n : Nat} {t0 : AV} {t1 : AV} {t2 : Int} {h : AHeap} {rR : ARes} {hR : AHeap} (hF : disk_Disk_Crash call n t0 t1 t2 h = some (rR, hR)) : Says Try.prog 13 [t0, t1, .int .i64 t2] h rR hR := by
 unfold disk_Disk_Crash at hF
 refine sO Try.func13 fun w0 m0 => ?_
 refine wW [(0, t0), (1, t1), (2, .int .i64 t2)] ?_
 refine oG fun n1 => W.r ?_
 refine oA 6 (.int .i64 0) ?_
 refine oV [(0, t0), (1, t1), (2, .int .i64 t2)] (n1 ?_)
 refine oH fun n2 q2 => ?_
 refine oG fun n3 => W.r ?_
 refine oA 9 t0 ?_
 replace hF := outK_some hF; obtain ⟨v10, h_4, e5, hF⟩ := hF
 replace hF := obind_some hF; obtain ⟨t10, c6, hF⟩ := hF
 have c6 := avBool_some c6
 subst c6
 refine WL.b (some 10) (.bool t10) h_4 e5 ?_
 refine oV [(0, t0), (1, t1), (2, .int .i64 t2), (10, .bool t10)] (n3 ?_)
 cases t10 with
 | true =>
  refine oT hF fun hF => ?_
  refine oG fun n7 => W.r ?_
  refine oA 6 (.int .i64 1) ?_
  refine oV [(6, .int .i64 1)] (n7 (oY (q2 ?_)))
  exact lZ hF [.tmp 6] [.int .i64 1] (rT res_nil)
 | false =>
  refine oU hF fun hF => ?_
  refine oZ (n2 ?_)
  refine W.s (fun K8 n8 e8 q8 p8 => ?_)
  refine oG fun n9 => W.r ?_
  refine oA 11 (.int .i64 0) ?_
  refine oV [(0, t0), (1, t1), (2, .int .i64 t2), (11, .int .i64 0)] (n9 ?_)
  obtain ⟨k11, e11, hF⟩ := lett_some hF
  have J11 : ∀  (h_12 : AHeap), k11 h_12 = some (rR, hR) → Go w0 m0 (Func.ntmps Try.f13) (K8 .normal) [(0, t0)] [] h_12 := by
   intro  h_12 hF
   rw [e11] at hF
   refine n8 ?_
   refine oG fun n13 => W.r ?_
   refine oA 31 t0 ?_
   refine oC0 32 hF fun t32 hF => ?_
   refine oF 33 84 1 hF fun t33 hF => ?_
   refine oW 3 (.int .i64 (-1)) hF fun h_16 hF => ?_
   refine oV [] (n13 ?_)
   refine oG fun n18 => W.r ?_
   refine oA 6 (.int .i64 0) ?_
   refine oV [(6, .int .i64 0)] (n18 (oY ?_))
   exact lZ hF [.tmp 6] [.int .i64 0] (rT res_nil)
  refine W.blockK (by kernel_rfl) (fun K10 n10 s10 o10 q10 p10 => ?_)
  refine W.loopK (by kernel_rfl) (fun I19 K19 b19 n19 e19 q19 p19 => ?_)
  have L19 : ∀ (m : Nat) (t11 : Int) (h_20 : AHeap), disk_Disk_Crash_L0 call t0 t1 t2 k11 m t11 h_20 = some (rR, hR) → Go w0 m0 (Func.ntmps Try.f13) I19 [(0, t0), (1, t1), (2, .int .i64 t2), (11, .int .i64 t11)] [] h_20 := by
   intro m
   induction m with
   | zero => intro t11 h_20 hF; cases hF
   | succ m ih19 =>
    intro t11 h_20 hF
    rw [disk_Disk_Crash_L0_s] at hF; unfold disk_Disk_Crash_L0b at hF
    refine b19 ?_
    refine oG fun n21 => W.r ?_
    refine oB 12 hF fun t12 hF => ?_
    refine oV [(0, t0), (1, t1), (2, .int .i64 t2), (11, .int .i64 t11), (12, .bool t12)] (n21 ?_)
    refine W.s (fun K23 n23 e23 q23 p23 => ?_)
    cases t12 with
    | true =>
     refine oT hF fun hF => ?_
     refine oZ (n23 ?_)
     refine oG fun n24 => ?_
     refine W.blockK (by kernel_rfl) (fun K25 n25 s25 o25 q25 p25 => ?_)
     refine oG fun n26 => W.r ?_
     refine oA 13 (.int .i64 t11) ?_
     refine oA 7 (.int .i64 t11) ?_
     refine oV [(0, t0), (1, t1), (2, .int .i64 t2), (7, .int .i64 t11), (11, .int .i64 t11)] (n26 ?_)
     refine oG fun n27 => W.r ?_
     refine oA 8 (.int .i64 0) ?_
     refine oV [(0, t0), (1, t1), (2, .int .i64 t2), (7, .int .i64 t11), (8, .int .i64 0), (11, .int .i64 t11)] (n27 ?_)
     refine W.s (fun K28 n28 e28 q28 p28 => ?_)
     refine oG fun n29 => W.r ?_
     refine oA 14 (.int .i64 t11) ?_
     refine oA 15 t1 ?_
     refine oM 16 63 3 hF fun t16 hF => ?_
     refine oB 17 hF fun t17 hF => ?_
     refine oV [(0, t0), (1, t1), (2, .int .i64 t2), (7, .int .i64 t11), (8, .int .i64 0), (11, .int .i64 t11), (17, .bool t17)] (n29 ?_)
     obtain ⟨k32, e32, hF⟩ := lett_some hF
     have J32 : ∀ (t8 : Int) (h_33 : AHeap), k32 t8 h_33 = some (rR, hR) → Go w0 m0 (Func.ntmps Try.f13) (K28 .normal) [(0, t0), (1, t1), (2, .int .i64 t2), (7, .int .i64 t11), (8, .int .i64 t8), (11, .int .i64 t11)] [] h_33 := by
      intro t8 h_33 hF
      rw [e32] at hF
      refine n28 (W.r ?_)
      refine oA 22 t0 ?_
      refine oA 23 (.int .i64 t11) ?_
      refine oC0 24 hF fun t24 hF => ?_
      refine oF 25 84 0 hF fun t25 hF => ?_
      refine oQ 26 82 81 .i64 hF fun t26 hF => ?_
      refine oA 27 (.int .i64 t8) ?_
      refine oA 28 (.int .i64 t2) ?_
      refine oC hc (some 29) hF fun r29 h_37 hF => ?_
      refine oV [(0, t0), (1, t1), (2, .int .i64 t2), (11, .int .i64 t11)] (n25 (n24 (W.r ?_)))
      refine oI 30 .i64 hF fun t30 hF => ?_
      refine oA 11 (.int .i64 t30) ?_
      refine oV [(0, t0), (1, t1), (2, .int .i64 t2), (11, .int .i64 t30)] (n19 ?_)
      exact gW _ (ih19 _ _ hF)
     cases t17 with
     | true =>
      refine oT hF fun hF => ?_
      refine W.r ?_
      refine oA 18 t1 ?_
      refine oA 19 (.int .i64 t11) ?_
      refine oP 20 63 3 .i64 hF fun t20 hF => ?_
      refine oLi 21 3 hF fun t21 hF => ?_
      refine oA 8 (.int .i64 t21) ?_
      refine oV [(0, t0), (1, t1), (2, .int .i64 t2), (7, .int .i64 t11), (8, .int .i64 t21), (11, .int .i64 t11)] ?_
      exact gW _ (J32 _ _ hF)
     | false =>
      refine oU hF fun hF => ?_
      refine oZ ?_
      exact gW _ (J32 _ _ hF)
    | false =>
     refine oU hF fun hF => ?_
     refine W.exit (by kernel_rfl) ?_
     refine e23 (e19 ?_)
     refine s10 (by kernel_rfl) ?_
     exact gW _ (J11 _ hF)
  exact gW _ (L19 _ _ _ hF)
noncomputable def disk_file_crash (call : CallF) (_ : Nat) (t0 : AV) (t1 : Int) (t2 : Int) (h : AHeap) : R :=
 lett (if 0 > t1 then 0 else t1) fun (t8 : Int) =>
 obind (nilC t0) fun t10 =>
 obind (fldP 4 t10) fun t11 =>
 obind (ldCell h t11) fun v12 =>
 obind (lenL v12) fun t13 =>
 lett (if t13 < t8 then t13 else t8) fun (t14 : Int) =>
 obind (nilC t0) fun t16 =>
 obind (fldP 0 t16) fun t17 =>
 obind (nilC t0) fun t19 =>
 obind (fldP 4 t19) fun t20 =>
 obind (ldCell h t20) fun v21 =>
 outK (sliceA Try.prog h 79 v21 none (some (.int .i64 t14))) fun v23 h_14 =>
 callN (call 56 [t17, v23] h_14) fun _ h_16 =>
 obind (nilC t0) fun t27 =>
 obind (fldP 4 t27) fun t28 =>
 obind (ldCell h_16 t28) fun v29 =>
 obind (lenL v29) fun t30 =>
 lett (decide (t14 < t30)) fun (t31 : Bool) =>
 lett (fun (t35 : Bool) (h_25 : AHeap) =>
  lett (fun  (h_29 : AHeap) =>
   obind (nilC t0) fun t69 =>
   obind (fldP 0 t69) fun t70 =>
   callN (call 61 [t70] h_29) fun r71 h_33 =>
   obind (avAgg r71) fun t71 =>
   obind (nilC t0) fun t72 =>
   obind (fldP 2 t72) fun t73 =>
   obind (stRow h_33 2 t71 t73) fun h_38 =>
   obind (nilC t0) fun t75 =>
   obind (fldP 4 t75) fun t76 =>
   obind (stRow h_38 1 (AV.cells AV.nsl) t76) fun h_42 =>
   some (.ret (.tup []), h_42)) fun k28 =>
  ifB t35
  (
   obind (nilC t0) fun t37 =>
   obind (fldP 4 t37) fun t38 =>
   obind (ldCell h_25 t38) fun v39 =>
   obind (idxP 3 v39 t14) fun t41 =>
   obind (ldRow h_25 3 t41) fun t42 =>
   lett (newH h_25 114 [.int .i64 0, .str 0 0, .int .i64 0]) fun h_50 =>
   obind (stRow h_50 3 t42 (newP h_25)) fun h_52 =>
   obind (ldCell h_52 (AV.ptr (AHeap.next h_25) 0)) fun v44 =>
   obind (avInt .i64 v44) fun t44 =>
   lett ((t44 : Int) == 0) fun (t45 : Bool) =>
   lett (fun (t50 : Bool) (h_58 : AHeap) =>
    lett (fun  (h_62 : AHeap) =>
     k28 h_62) fun k61 =>
    ifB t50
    (
     obind (ldCell h_58 (AV.ptr (AHeap.next h_25) 1)) fun v52 =>
     obind (avStr v52) fun t52 =>
     obind (ldCell h_58 (AV.ptr (AHeap.next h_25) 1)) fun v55 =>
     obind (avStr v55) fun t55 =>
     lett (IntKind.i64.wrap ((lenS t55) - 1)) fun (t57 : Int) =>
     lett (if t57 < t2 then t57 else t2) fun (t58 : Int) =>
     obind (sliceS t52 0 t58) fun t59 =>
     obind (stRow h_58 1 [strA t59] (AV.ptr (AHeap.next h_25) 1)) fun h_71 =>
     obind (nilC t0) fun t62 =>
     obind (fldP 0 t62) fun t63 =>
     obind (ldRow h_71 3 (newP h_25)) fun t64 =>
     outK (bldSl Try.prog h_71 79 1 [(0, .agg t64)]) fun v65 h_76 =>
     callN (call 56 [t63, v65] h_76) fun _ h_78 =>
     k61 h_78)
    (
     k61 h_58)) fun j50 =>
   ifB t45
   (
    obind (ldCell h_52 (AV.ptr (AHeap.next h_25) 1)) fun v48 =>
    obind (avStr v48) fun t48 =>
    lett (!eqS t48 ([] : Bytes)) fun (t49 : Bool) =>
    j50 t49 h_52)
   (
    j50 false h_52))
  (
   k28 h_25)) fun j35 =>
 ifB t31
 (
  lett (decide (t2 > 0)) fun (t34 : Bool) =>
  j35 t34 h_16)
 (
  j35 false h_16)
set_option maxHeartbeats 4000000 in
set_option maxRecDepth 20000 in
theorem disk_file_crash_ok {call : CallF} (hc : SaysAll Try.prog call) {n : Nat} {t0 : AV} {t1 : Int} {t2 : Int} {h : AHeap} {rR : ARes} {hR : AHeap} (hF : disk_file_crash call n t0 t1 t2 h = some (rR, hR)) : Says Try.prog 38 [t0, .int .i64 t1, .int .i64 t2] h rR hR := by
 unfold disk_file_crash at hF
 refine sO Try.func38 fun w0 m0 => ?_
 refine wW [(0, t0), (1, .int .i64 t1), (2, .int .i64 t2)] ?_
 refine oG fun n1 => W.r ?_
 refine oA 7 (.int .i64 t1) ?_
 refine oI 8 .i64 hF fun t8 hF => ?_
 refine oA 9 t0 ?_
 refine oC0 10 hF fun t10 hF => ?_
 refine oF 11 81 2 hF fun t11 hF => ?_
 refine oL 12 79 hF fun v12 hF => ?_
 refine oM 13 79 114 hF fun t13 hF => ?_
 refine oI 14 .i64 hF fun t14 hF => ?_
 refine oA 1 (.int .i64 t14) ?_
 refine oV [(0, t0), (1, .int .i64 t14), (2, .int .i64 t2)] (n1 ?_)
 refine oG fun n8 => ?_
 refine W.draw (by kernel_rfl) (hc.ok w0) (plan := [0, 1, 2, 3, 4, 5, 6, 7, 8, 9]) (by kernel_rfl) (by kernel_rfl) (by kernel_rfl) ?_
 refine WD.a 0 (some 15) t0 h ?_
 obtain ⟨t16, e9, hF⟩ := obind_some hF
 refine WD.b 0 (some 16) t16 h (nil_chk (h := h) e9) ?_
 obtain ⟨t17, e10, hF⟩ := obind_some hF
 refine WD.b 0 (some 17) t17 h (field_ptr (P := Try.prog) (h := h) (s := 81) (f := 0) (by kernel_rfl) e10) ?_
 refine WD.a 0 (some 18) t0 h ?_
 obtain ⟨t19, e11, hF⟩ := obind_some hF
 refine WD.b 0 (some 19) t19 h (nil_chk (h := h) e11) ?_
 obtain ⟨t20, e12, hF⟩ := obind_some hF
 refine WD.b 0 (some 20) t20 h (field_ptr (P := Try.prog) (h := h) (s := 81) (f := 2) (by kernel_rfl) e12) ?_
 obtain ⟨v21, e13, hF⟩ := obind_some hF
 refine WD.b 1 (some 21) v21 h (load_cell (P := Try.prog) (h := h) (t := 79) (by kernel_rfl) e13) ?_
 refine WD.a 0 (some 22) (.int .i64 t14) h ?_
 obtain ⟨v23, h_14, e15, hF⟩ := outK_some hF
 refine WD.b 0 (some 23) v23 h_14 e15 ?_
 obtain ⟨r24, h_16, e17, hF⟩ := callN_some hF
 refine WD.call (d := (some 24)) (by kernel_rfl) (by kernel_rfl) (by kernel_rfl) e17 (k := 2) (by kernel_rfl) (fun _ => (by kernel_rfl)) (by decide) ?_
 refine WD.nil ?_
 refine gW [(0, t0), (1, .int .i64 t14), (2, .int .i64 t2)] (n8 ?_)
 refine W.s (fun K18 n18 e18 q18 p18 => ?_)
 refine W.s (fun K19 n19 e19 q19 p19 => ?_)
 refine W.r ?_
 refine oA 25 (.int .i64 t14) ?_
 refine oA 26 t0 ?_
 refine oC0 27 hF fun t27 hF => ?_
 refine oF 28 81 2 hF fun t28 hF => ?_
 refine oL 29 79 hF fun v29 hF => ?_
 refine oM 30 79 114 hF fun t30 hF => ?_
 refine oB 31 hF fun t31 hF => ?_
 refine oA 32 (.bool t31) ?_
 obtain ⟨j35, e26, hF⟩ := lett_some hF
 have J27 : ∀ (t35 : Bool) (h_25 : AHeap), j35 t35 h_25 = some (rR, hR) → WL Try.prog w0 m0 (Func.ntmps Try.f38) (Code.ops (Code.p1 (Code.p1 (Code.p2 (Code.p2 (codeOf Try.f38)))))) 11 K19 [(0, t0), (1, .int .i64 t14), (2, .int .i64 t2), (35, .bool t35)] [] h_25 := by
  intro t35 h_25 hF
  rw [e26] at hF
  refine oV [(0, t0), (1, .int .i64 t14), (2, .int .i64 t2), (35, .bool t35)] (n19 ?_)
  obtain ⟨k28, e28, hF⟩ := lett_some hF
  have J28 : ∀  (h_29 : AHeap), k28 h_29 = some (rR, hR) → Go w0 m0 (Func.ntmps Try.f38) (K18 .normal) [(0, t0)] [] h_29 := by
   intro  h_29 hF
   rw [e28] at hF
   refine n18 ?_
   refine oG fun n30 => W.r ?_
   refine oA 67 t0 ?_
   refine oA 68 t0 ?_
   refine oC0 69 hF fun t69 hF => ?_
   refine oF 70 81 0 hF fun t70 hF => ?_
   refine oCa hc 71 hF fun t71 h_33 hF => ?_
   refine oC0 72 hF fun t72 hF => ?_
   refine oF 73 81 1 hF fun t73 hF => ?_
   refine oW 78 (.agg t71) hF fun h_38 hF => ?_
   refine oV [(0, t0)] (n30 (W.r ?_))
   refine oA 74 t0 ?_
   refine oC0 75 hF fun t75 hF => ?_
   refine oF 76 81 2 hF fun t76 hF => ?_
   refine oW 79 AV.nsl hF fun h_42 hF => ?_
   refine oV [] ?_
   exact lY hF [] [] res_nil
  cases t35 with
  | true =>
   refine oT hF fun hF => ?_
   refine oG fun n44 => W.r ?_
   refine oA 36 t0 ?_
   refine oC0 37 hF fun t37 hF => ?_
   refine oF 38 81 2 hF fun t38 hF => ?_
   refine oL 39 79 hF fun v39 hF => ?_
   refine oA 40 (.int .i64 t14) ?_
   refine oP 41 79 114 .i64 hF fun t41 hF => ?_
   refine oR 42 114 hF fun t42 hF => ?_
   refine oN 6 hF fun h_50 hF => ?_
   refine oW 114 (.agg t42) hF fun h_52 hF => ?_
   refine oV [(0, t0), (2, .int .i64 t2), (6, (newP h_25))] (n44 ?_)
   refine W.s (fun K54 n54 e54 q54 p54 => ?_)
   refine W.r ?_
   refine oA 43 (AV.ptr (AHeap.next h_25) 0) ?_
   refine oLi 44 112 hF fun t44 hF => ?_
   refine oB 45 hF fun t45 hF => ?_
   refine oA 46 (.bool t45) ?_
   obtain ⟨j50, e59, hF⟩ := lett_some hF
   have J60 : ∀ (t50 : Bool) (h_58 : AHeap), j50 t50 h_58 = some (rR, hR) → WL Try.prog w0 m0 (Func.ntmps Try.f38) (Code.ops (Code.p1 (Code.p2 (Code.p1 (Code.p2 (Code.p1 (Code.p2 (Code.p2 (codeOf Try.f38))))))))) 8 K54 [(0, t0), (2, .int .i64 t2), (6, (newP h_25)), (50, .bool t50)] [] h_58 := by
    intro t50 h_58 hF
    rw [e59] at hF
    refine oV [(0, t0), (2, .int .i64 t2), (6, (newP h_25)), (50, .bool t50)] (n54 ?_)
    obtain ⟨k61, e61, hF⟩ := lett_some hF
    have J61 : ∀  (h_62 : AHeap), k61 h_62 = some (rR, hR) → Go w0 m0 (Func.ntmps Try.f38) (K18 .normal) [(0, t0)] [] h_62 := by
     intro  h_62 hF
     rw [e61] at hF
     exact gW _ (J28 _ hF)
    cases t50 with
    | true =>
     refine oT hF fun hF => ?_
     refine oG fun n63 => W.r ?_
     refine oA 51 (AV.ptr (AHeap.next h_25) 1) ?_
     refine oLs 52 9 hF fun t52 hF => ?_
     refine oA 53 (.int .i64 t2) ?_
     refine oA 54 (AV.ptr (AHeap.next h_25) 1) ?_
     refine oLs 55 9 hF fun t55 hF => ?_
     refine oA 56 (.int .i64 (lenS t55)) ?_
     refine oI 57 .i64 hF fun t57 hF => ?_
     refine oI 58 .i64 hF fun t58 hF => ?_
     obtain ⟨t59, e70, hF⟩ := obind_some hF
     refine WL.b (some 59) (strA t59) h_58 (slice_str (P := Try.prog) (h := h_58) (t := 9) (A := none) (B := (some (.int .i64 t58))) (by kernel_rfl) (.inr ⟨rfl, rfl⟩) (.inl ⟨_, rfl⟩) e70) ?_
     refine oA 60 (AV.ptr (AHeap.next h_25) 1) ?_
     refine oW 9 (strA t59) hF fun h_71 hF => ?_
     refine oV [(0, t0), (6, (newP h_25))] (n63 ?_)
     refine W.draw (by kernel_rfl) (hc.ok w0) (plan := [0, 1, 2, 3, 4, 5]) (by kernel_rfl) (by kernel_rfl) (by kernel_rfl) ?_
     refine WD.a 0 (some 61) t0 h_71 ?_
     obtain ⟨t62, e73, hF⟩ := obind_some hF
     refine WD.b 0 (some 62) t62 h_71 (nil_chk (h := h_71) e73) ?_
     obtain ⟨t63, e74, hF⟩ := obind_some hF
     refine WD.b 0 (some 63) t63 h_71 (field_ptr (P := Try.prog) (h := h_71) (s := 81) (f := 0) (by kernel_rfl) e74) ?_
     obtain ⟨t64, e75, hF⟩ := obind_some hF
     refine WD.b 1 (some 64) (.agg t64) h_71 (load_row (P := Try.prog) (h := h_71) (t := 114) (by kernel_rfl) (by kernel_rfl) e75) ?_
     obtain ⟨v65, h_76, e77, hF⟩ := outK_some hF
     refine WD.val (d := (some 65)) (v := v65) (h' := h_76) (by kernel_rfl) (by kernel_rfl) (Eq.trans (by kernel_rfl) e77) (k := 2) (by kernel_rfl) (fun _ => (by kernel_rfl)) (by decide) ?_
     obtain ⟨r66, h_78, e79, hF⟩ := callN_some hF
     refine WD.call (d := (some 66)) (by kernel_rfl) (by kernel_rfl) (by kernel_rfl) e79 (k := 2) (by kernel_rfl) (fun _ => (by kernel_rfl)) (by decide) ?_
     refine WD.nil ?_
     refine gW [(0, t0)] ?_
     exact gW _ (J61 _ hF)
    | false =>
     refine oU hF fun hF => ?_
     refine oZ ?_
     exact gW _ (J61 _ hF)
   cases t45 with
   | true =>
    replace hF := ifB_t hF
    refine oA 47 (AV.ptr (AHeap.next h_25) 1) ?_
    refine oLs 48 9 hF fun t48 hF => ?_
    refine oB 49 hF fun t49 hF => ?_
    refine oA 50 (.bool t49) ?_
    exact lW _ (J60 _ _ hF)
   | false =>
    replace hF := ifB_f hF
    refine WL.o (some 47) ?_
    refine WL.o (some 48) ?_
    refine WL.o (some 49) ?_
    refine oA 50 (.bool false) ?_
    exact lW _ (J60 _ _ hF)
  | false =>
   refine oU hF fun hF => ?_
   refine oZ ?_
   exact gW _ (J28 _ hF)
 cases t31 with
 | true =>
  replace hF := ifB_t hF
  refine oA 33 (.int .i64 t2) ?_
  refine oB 34 hF fun t34 hF => ?_
  refine oA 35 (.bool t34) ?_
  exact lW _ (J27 _ _ hF)
 | false =>
  replace hF := ifB_f hF
  refine WL.o (some 33) ?_
  refine WL.o (some 34) ?_
  refine oA 35 (.bool false) ?_
  exact lW _ (J27 _ _ hF)
noncomputable def disk_content_copy (call : CallF) (_ : Nat) (t0 : AV) (h : AHeap) : R :=
 lett (newH h 78 [.bool false, .nsl]) fun h_2 =>
 obind (nilC t0) fun t4 =>
 obind (fldP 0 t4) fun t5 =>
 obind (ldCell h_2 t5) fun v6 =>
 obind (avBool v6) fun t6 =>
 obind (nilC t0) fun t8 =>
 obind (fldP 1 t8) fun t9 =>
 obind (ldCell h_2 t9) fun v10 =>
 callN (call 83 [v10] h_2) fun r11 h_12 =>
 chk (true && (reLoad Try.prog h_12 4 t5 (.bool t6) && true)) <|
 obind (bldS Try.prog 78 [(0, .bool t6), (1, r11)]) fun t12 =>
 obind (stRow h_12 2 t12 (newP h)) fun h_16 =>
 obind (ldRow h_16 2 (newP h)) fun w2 =>
 some (.ret (.agg w2), h_16)
set_option maxHeartbeats 4000000 in
set_option maxRecDepth 20000 in
theorem disk_content_copy_ok {call : CallF} (hc : SaysAll Try.prog call) {n : Nat} {t0 : AV} {h : AHeap} {rR : ARes} {hR : AHeap} (hF : disk_content_copy call n t0 h = some (rR, hR)) : Says Try.prog 61 [t0] h rR hR := by
 unfold disk_content_copy at hF
 refine sO Try.func61 fun w0 m0 => ?_
 refine wW [(0, t0)] ?_
 refine oG fun n1 => W.r ?_
 refine oN 2 hF fun h_2 hF => ?_
 refine oV [(0, t0), (2, (newP h))] (n1 ?_)
 refine oG fun n4 => ?_
 refine W.draw (by kernel_rfl) (hc.ok w0) (plan := [0, 1, 2, 3, 4, 5, 6, 7, 8, 9, 10]) (by kernel_rfl) (by kernel_rfl) (by kernel_rfl) ?_
 refine WD.a 0 (some 3) t0 h_2 ?_
 obtain ⟨t4, e5, hF⟩ := obind_some hF
 refine WD.b 0 (some 4) t4 h_2 (nil_chk (h := h_2) e5) ?_
 obtain ⟨t5, e6, hF⟩ := obind_some hF
 refine WD.b 0 (some 5) t5 h_2 (field_ptr (P := Try.prog) (h := h_2) (s := 78) (f := 0) (by kernel_rfl) e6) ?_
 replace hF := obind_some hF; obtain ⟨v6, e7, hF⟩ := hF
 replace hF := obind_some hF; obtain ⟨t6, c8, hF⟩ := hF
 have c8 := avBool_some c8
 subst c8
 refine WD.b 1 (some 6) (.bool t6) h_2 (load_cell (P := Try.prog) (h := h_2) (t := 4) (by kernel_rfl) e7) ?_
 refine WD.a 0 (some 7) t0 h_2 ?_
 obtain ⟨t8, e9, hF⟩ := obind_some hF
 refine WD.b 0 (some 8) t8 h_2 (nil_chk (h := h_2) e9) ?_
 obtain ⟨t9, e10, hF⟩ := obind_some hF
 refine WD.b 0 (some 9) t9 h_2 (field_ptr (P := Try.prog) (h := h_2) (s := 78) (f := 1) (by kernel_rfl) e10) ?_
 obtain ⟨v10, e11, hF⟩ := obind_some hF
 refine WD.b 1 (some 10) v10 h_2 (load_cell (P := Try.prog) (h := h_2) (t := 37) (by kernel_rfl) e11) ?_
 obtain ⟨r11, h_12, e13, hF⟩ := callN_some hF
 obtain ⟨k14, hF⟩ := chk_some hF
 refine WD.call (d := (some 11)) (by kernel_rfl) (by kernel_rfl) (by kernel_rfl) e13 (k := 2) (by kernel_rfl) (fun _ => (Eq.trans (by kernel_rfl) k14)) (by decide) ?_
 obtain ⟨t12, e15, hF⟩ := obind_some hF
 refine WD.val (d := (some 12)) (v := .agg t12) (h' := h_12) (by kernel_rfl) (by kernel_rfl) (bld_ok (by kernel_rfl) e15) (k := 0) (by kernel_rfl) (fun e => absurd e (by decide)) (by decide) ?_
 obtain ⟨h_16, e17, hF⟩ := obind_some hF
 refine WD.eff (h' := h_16) (by kernel_rfl) (by kernel_rfl) (Eq.trans (by kernel_rfl) (store_row (P := Try.prog) (h := h_12) (t := 78) (v := (.agg t12)) (by kernel_rfl) (by kernel_rfl) e17)) (k := 2) (by kernel_rfl) (fun _ => (by kernel_rfl)) (by decide) ?_
 refine WD.nil ?_
 refine gW [(2, (newP h))] (n4 (oY ?_))
 obtain ⟨w2, e18, hF⟩ := obind_some hF
 exact lZ hF [.cell 2 78] [.agg w2] (rY e18 res_nil)
noncomputable def slices_Clone___byte_byte_ (_ : CallF) (_ : Nat) (t0 : AV) (h : AHeap) : R :=
 outK (opBin Try.prog h .eql 37 true (some t0) (some AV.nsl)) fun v4 h_4 =>
 obind (avBool v4) fun t4 =>
 ifB t4
 (
  some (.ret (AV.nsl), h_4))
 (
  outK (bldSl Try.prog h_4 37 0 []) fun v5 h_9 =>
  outK (opAppend Try.prog h_9 37 37 v5 t0) fun v7 h_11 =>
  some (.ret (v7), h_11))
set_option maxHeartbeats 4000000 in
set_option maxRecDepth 20000 in
theorem slices_Clone___byte_byte__ok {call : CallF} (_ : SaysAll Try.prog call) {n : Nat} {t0 : AV} {h : AHeap} {rR : ARes} {hR : AHeap} (hF : slices_Clone___byte_byte_ call n t0 h = some (rR, hR)) : Says Try.prog 83 [t0] h rR hR := by
 unfold slices_Clone___byte_byte_ at hF
 refine sO Try.func83 fun w0 m0 => ?_
 refine wW [(0, t0)] ?_
 refine oG fun n1 => W.r ?_
 refine oA 2 AV.nsl ?_
 refine oV [(0, t0)] (n1 ?_)
 refine oH fun n2 q2 => ?_
 refine oG fun n3 => W.r ?_
 refine oA 3 t0 ?_
 replace hF := outK_some hF; obtain ⟨v4, h_4, e5, hF⟩ := hF
 replace hF := obind_some hF; obtain ⟨t4, c6, hF⟩ := hF
 have c6 := avBool_some c6
 subst c6
 refine WL.b (some 4) (.bool t4) h_4 e5 ?_
 refine oV [(0, t0), (4, .bool t4)] (n3 ?_)
 cases t4 with
 | true =>
  refine oT hF fun hF => ?_
  refine oG fun n7 => W.r ?_
  refine oA 2 AV.nsl ?_
  refine oV [(2, AV.nsl)] (n7 (oY (q2 ?_)))
  exact lZ hF [.tmp 2] [AV.nsl] (rT res_nil)
 | false =>
  refine oU hF fun hF => ?_
  refine oZ (n2 ?_)
  refine oG fun n8 => W.r ?_
  refine oK 5 hF fun v5 h_9 hF => ?_
  refine oA 6 t0 ?_
  refine oK 7 hF fun v7 h_11 hF => ?_
  refine oA 2 v7 ?_
  refine oV [(2, v7)] (n8 (oY ?_))
  exact lZ hF [.tmp 2] [v7] (rT res_nil)
noncomputable def sum_More_L0b (t1 : Bytes) (h : AHeap) (k13 : Int → AHeap → R) (self : Int → Int → AHeap → R) (t6_18 : Int) (t13 : Int) (h_19 : AHeap) : R :=
 lett (decide (t13 < (lenS t1))) fun (t14 : Bool) =>
 ifB t14
 (
  obind (idxS t1 t13) fun t19 =>
  lett (IntKind.u32.wrap t19) fun (t20 : Int) =>
  lett (xorI .u32 t6_18 t20) fun (t21 : Int) =>
  obind (shrI .u32 t21 4) fun t23 =>
  obind (remI .u32 t21 16) fun t25 =>
  obind (idxA 16 1 (newP h) t25) fun t26 =>
  obind (ldCell h_19 t26) fun v27 =>
  obind (avInt .u32 v27) fun t27 =>
  lett (xorI .u32 t23 t27) fun (t28 : Int) =>
  obind (shrI .u32 t28 4) fun t30 =>
  obind (remI .u32 t28 16) fun t32 =>
  obind (idxA 16 1 (newP h) t32) fun t33 =>
  obind (ldCell h_19 t33) fun v34 =>
  obind (avInt .u32 v34) fun t34 =>
  lett (xorI .u32 t30 t34) fun (t35 : Int) =>
  lett (IntKind.i64.wrap (t13 + 1)) fun (t36 : Int) =>
  self t35 t36 h_19)
 (
  k13 t6_18 h_19)
noncomputable def sum_More_L0 (t1 : Bytes) (h : AHeap) (k13 : Int → AHeap → R) : Nat → Int → Int → AHeap → R := iterR (fun _ _ _ => none) (sum_More_L0b t1 h k13)
theorem sum_More_L0_s (t1 : Bytes) (h : AHeap) (k13 : Int → AHeap → R) (m : Nat) : sum_More_L0 t1 h k13 (m + 1) = sum_More_L0b t1 h k13 (sum_More_L0 t1 h k13 m) := rfl
noncomputable def sum_More (_ : CallF) (n : Nat) (t0 : Int) (t1 : Bytes) (h : AHeap) : R :=
 obind (bldS Try.prog 167 [(0, .int .u32 0), (1, .int .u32 274646895), (2, .int .u32 549293790), (3, .int .u32 820201905), (4, .int .u32 1098587580), (5, .int .u32 1361435347), (6, .int .u32 1640403810), (7, .int .u32 1905808397), (8, .int .u32 2197175160), (9, .int .u32 2460548119), (10, .int .u32 2722870694), (11, .int .u32 2987750089), (12, .int .u32 3280807620), (13, .int .u32 3553878443), (14, .int .u32 3811616794), (15, .int .u32 4084100981)]) fun t8 =>
 lett (newH h 167 [.int .u32 0, .int .u32 0, .int .u32 0, .int .u32 0, .int .u32 0, .int .u32 0, .int .u32 0, .int .u32 0, .int .u32 0, .int .u32 0, .int .u32 0, .int .u32 0, .int .u32 0, .int .u32 0, .int .u32 0, .int .u32 0]) fun h_4 =>
 obind (stRow h_4 16 t8 (newP h)) fun h_6 =>
 lett (comI .u32 t0) fun (t10 : Int) =>
 lett (fun (t6 : Int) (h_14 : AHeap) =>
  lett (comI .u32 t6) fun (t38 : Int) =>
  some (.ret (.int .u32 t38), h_14)) fun k13 =>
 sum_More_L0 t1 h k13 n t10 0 h_6
set_option maxHeartbeats 4000000 in
set_option maxRecDepth 20000 in
theorem sum_More_ok {call : CallF} (_ : SaysAll Try.prog call) {n : Nat} {t0 : Int} {t1 : Bytes} {h : AHeap} {rR : ARes} {hR : AHeap} (hF : sum_More call n t0 t1 h = some (rR, hR)) : Says Try.prog 94 [.int .u32 t0, strA t1] h rR hR := by
 unfold sum_More at hF
 refine sO Try.func94 fun w0 m0 => ?_
 refine wW [(0, .int .u32 t0), (1, strA t1)] ?_
 refine oG fun n1 => W.r ?_
 refine oA 4 (.int .u32 0) ?_
 refine oV [(0, .int .u32 t0), (1, strA t1)] (n1 ?_)
 refine oG fun n2 => W.r ?_
 obtain ⟨t8, e3, hF⟩ := obind_some hF
 refine WL.val (d := (some 8)) (v := .agg t8) (h' := h) (by kernel_rfl) (by kernel_rfl) (bld_ok (by kernel_rfl) e3) ?_
 refine oN 5 hF fun h_4 hF => ?_
 refine oW 167 (.agg t8) hF fun h_6 hF => ?_
 refine oV [(0, .int .u32 t0), (1, strA t1), (5, (newP h))] (n2 ?_)
 refine oG fun n8 => W.r ?_
 refine oA 9 (.int .u32 t0) ?_
 refine oI 10 .u32 hF fun t10 hF => ?_
 refine oA 6 (.int .u32 t10) ?_
 refine oV [(1, strA t1), (5, (newP h)), (6, .int .u32 t10)] (n8 ?_)
 refine W.s (fun K10 n10 e10 q10 p10 => ?_)
 refine oG fun n11 => W.r ?_
 refine oA 11 (strA t1) ?_
 refine oA 12 (.int .i64 (lenS t1)) ?_
 refine oA 13 (.int .i64 0) ?_
 refine oV [(1, strA t1), (5, (newP h)), (6, .int .u32 t10), (12, .int .i64 (lenS t1)), (13, .int .i64 0)] (n11 ?_)
 obtain ⟨k13, e13, hF⟩ := lett_some hF
 have J13 : ∀ (t6 : Int) (h_14 : AHeap), k13 t6 h_14 = some (rR, hR) → Go w0 m0 (Func.ntmps Try.f94) (K10 .normal) [(6, .int .u32 t6)] [] h_14 := by
  intro t6 h_14 hF
  rw [e13] at hF
  refine n10 ?_
  refine oG fun n15 => W.r ?_
  refine oA 37 (.int .u32 t6) ?_
  refine oI 38 .u32 hF fun t38 hF => ?_
  refine oA 4 (.int .u32 t38) ?_
  refine oV [(4, .int .u32 t38)] (n15 (oY ?_))
  exact lZ hF [.tmp 4] [.int .u32 t38] (rT res_nil)
 refine W.blockK (by kernel_rfl) (fun K12 n12 s12 o12 q12 p12 => ?_)
 refine W.loopK (by kernel_rfl) (fun I17 K17 b17 n17 e17 q17 p17 => ?_)
 have L17 : ∀ (m : Nat) (t6_18 : Int) (t13 : Int) (h_19 : AHeap), sum_More_L0 t1 h k13 m t6_18 t13 h_19 = some (rR, hR) → Go w0 m0 (Func.ntmps Try.f94) I17 [(1, strA t1), (5, (newP h)), (6, .int .u32 t6_18), (12, .int .i64 (lenS t1)), (13, .int .i64 t13)] [] h_19 := by
  intro m
  induction m with
  | zero => intro t6_18 t13 h_19 hF; cases hF
  | succ m ih17 =>
   intro t6_18 t13 h_19 hF
   rw [sum_More_L0_s] at hF; unfold sum_More_L0b at hF
   refine b17 ?_
   refine oG fun n20 => W.r ?_
   refine oB 14 hF fun t14 hF => ?_
   refine oV [(1, strA t1), (5, (newP h)), (6, .int .u32 t6_18), (12, .int .i64 (lenS t1)), (13, .int .i64 t13), (14, .bool t14)] (n20 ?_)
   refine W.s (fun K22 n22 e22 q22 p22 => ?_)
   cases t14 with
   | true =>
    refine oT hF fun hF => ?_
    refine oZ (n22 ?_)
    refine oG fun n23 => ?_
    refine W.blockK (by kernel_rfl) (fun K24 n24 s24 o24 q24 p24 => ?_)
    refine oG fun n25 => W.r ?_
    refine oA 15 (.int .i64 t13) ?_
    refine oA 7 (.int .i64 t13) ?_
    refine oV [(1, strA t1), (5, (newP h)), (6, .int .u32 t6_18), (7, .int .i64 t13), (12, .int .i64 (lenS t1)), (13, .int .i64 t13)] (n25 ?_)
    refine oG fun n26 => W.r ?_
    refine oA 16 (.int .u32 t6_18) ?_
    refine oA 17 (strA t1) ?_
    refine oA 18 (.int .i64 t13) ?_
    refine oX 19 9 .i64 hF fun t19 hF => ?_
    refine oI 20 .u32 hF fun t20 hF => ?_
    refine oI 21 .u32 hF fun t21 hF => ?_
    refine oA 6 (.int .u32 t21) ?_
    refine oV [(1, strA t1), (5, (newP h)), (6, .int .u32 t21), (12, .int .i64 (lenS t1)), (13, .int .i64 t13)] (n26 ?_)
    refine oG fun n30 => W.r ?_
    refine oA 22 (.int .u32 t21) ?_
    obtain ⟨t23, e31, hF⟩ := obind_some hF
    refine WL.b (some 23) (.int .u32 t23) h_19 (shr_int (P := Try.prog) (h := h_19) (t := 154) (k' := .u64) (lit := true) e31) ?_
    refine oA 24 (.int .u32 t21) ?_
    obtain ⟨t25, e32, hF⟩ := obind_some hF
    refine WL.b (some 25) (.int .u32 t25) h_19 (rem_int (P := Try.prog) (h := h_19) (t := 154) (lit := true) e32) ?_
    refine oQ 26 167 154 .u32 hF fun t26 hF => ?_
    refine oLi 27 154 hF fun t27 hF => ?_
    refine oI 28 .u32 hF fun t28 hF => ?_
    refine oA 6 (.int .u32 t28) ?_
    refine oV [(1, strA t1), (5, (newP h)), (6, .int .u32 t28), (12, .int .i64 (lenS t1)), (13, .int .i64 t13)] (n30 (W.r ?_))
    refine oA 29 (.int .u32 t28) ?_
    obtain ⟨t30, e37, hF⟩ := obind_some hF
    refine WL.b (some 30) (.int .u32 t30) h_19 (shr_int (P := Try.prog) (h := h_19) (t := 154) (k' := .u64) (lit := true) e37) ?_
    refine oA 31 (.int .u32 t28) ?_
    obtain ⟨t32, e38, hF⟩ := obind_some hF
    refine WL.b (some 32) (.int .u32 t32) h_19 (rem_int (P := Try.prog) (h := h_19) (t := 154) (lit := true) e38) ?_
    refine oQ 33 167 154 .u32 hF fun t33 hF => ?_
    refine oLi 34 154 hF fun t34 hF => ?_
    refine oI 35 .u32 hF fun t35 hF => ?_
    refine oA 6 (.int .u32 t35) ?_
    refine oV [(1, strA t1), (5, (newP h)), (6, .int .u32 t35), (12, .int .i64 (lenS t1)), (13, .int .i64 t13)] (n24 (n23 (W.r ?_)))
    refine oI 36 .i64 hF fun t36 hF => ?_
    refine oA 13 (.int .i64 t36) ?_
    refine oV [(1, strA t1), (5, (newP h)), (6, .int .u32 t35), (12, .int .i64 (lenS t1)), (13, .int .i64 t36)] (n17 ?_)
    exact gW _ (ih17 _ _ _ hF)
   | false =>
    refine oU hF fun hF => ?_
    refine W.exit (by kernel_rfl) ?_
    refine e22 (e17 ?_)
    refine s12 (by kernel_rfl) ?_
    exact gW _ (J13 _ _ hF)
 exact gW _ (L17 _ _ _ _ hF)
noncomputable def sum_Of (call : CallF) (_ : Nat) (t0 : Bytes) (h : AHeap) : R :=
 callN (call 94 [.int .u32 0, strA t0] h) fun r4 h_3 =>
 obind (avInt .u32 r4) fun t4 =>
 some (.ret (.int .u32 t4), h_3)
set_option maxHeartbeats 4000000 in
set_option maxRecDepth 20000 in
theorem sum_Of_ok {call : CallF} (hc : SaysAll Try.prog call) {n : Nat} {t0 : Bytes} {h : AHeap} {rR : ARes} {hR : AHeap} (hF : sum_Of call n t0 h = some (rR, hR)) : Says Try.prog 92 [strA t0] h rR hR := by
 unfold sum_Of at hF
 refine sO Try.func92 fun w0 m0 => ?_
 refine wW [(0, strA t0)] ?_
 refine oG fun n1 => W.r ?_
 refine oA 2 (.int .u32 0) ?_
 refine oV [(0, strA t0)] (n1 ?_)
 refine oG fun n2 => W.r ?_
 refine oA 3 (strA t0) ?_
 refine oCi hc 4 hF fun t4 h_3 hF => ?_
 refine oA 2 (.int .u32 t4) ?_
 refine oV [(2, .int .u32 t4)] (n2 (oY ?_))
 exact lZ hF [.tmp 2] [.int .u32 t4] (rT res_nil)
noncomputable def frame_summed (call : CallF) (_ : Nat) (t0 : Bytes) (h : AHeap) : R :=
 callN (call 92 [strA t0] h) fun r5 h_3 =>
 obind (avInt .u32 r5) fun t5 =>
 callN (call 82 [.int .u32 t5] h_3) fun r6 h_6 =>
 obind (avStr r6) fun t6 =>
 obind (addS t0 t6) fun t7 =>
 some (.ret (strA t7), h_6)
set_option maxHeartbeats 4000000 in
set_option maxRecDepth 20000 in
theorem frame_summed_ok {call : CallF} (hc : SaysAll Try.prog call) {n : Nat} {t0 : Bytes} {h : AHeap} {rR : ARes} {hR : AHeap} (hF : frame_summed call n t0 h = some (rR, hR)) : Says Try.prog 81 [strA t0] h rR hR := by
 unfold frame_summed at hF
 refine sO Try.func81 fun w0 m0 => ?_
 refine wW [(0, strA t0)] ?_
 refine oG fun n1 => W.r ?_
 refine oA 2 (strA ([] : Bytes)) ?_
 refine oV [(0, strA t0)] (n1 ?_)
 refine oG fun n2 => W.r ?_
 refine oA 3 (strA t0) ?_
 refine oA 4 (strA t0) ?_
 refine oCi hc 5 hF fun t5 h_3 hF => ?_
 refine oCs hc 6 hF fun t6 h_6 hF => ?_
 obtain ⟨t7, e9, hF⟩ := obind_some hF
 refine WL.b (some 7) (strA t7) h_6 (add_str (P := Try.prog) (h := h_6) (t := 9) (lit := false) e9) ?_
 refine oA 2 (strA t7) ?_
 refine oV [(2, strA t7)] (n2 (oY ?_))
 exact lZ hF [.tmp 2] [strA t7] (rT res_nil)
noncomputable def frame_whole (call : CallF) (_ : Nat) (t0 : Bytes) (h : AHeap) : R :=
 lett (IntKind.i64.wrap ((lenS t0) - 4)) fun (t6 : Int) =>
 obind (sliceS t0 t6 (lenS t0)) fun t9 =>
 obind (sliceS t0 0 t6) fun t14 =>
 callN (call 75 [strA t9] h) fun r10 h_7 =>
 callN (call 85 [r10] h_7) fun r11 h_9 =>
 obind (avInt .u32 r11) fun t11 =>
 callN (call 92 [strA t14] h_9) fun r15 h_12 =>
 obind (avInt .u32 r15) fun t15 =>
 lett ((t11 : Int) == t15) fun (t16 : Bool) =>
 some (.ret (.bool t16), h_12)
set_option maxHeartbeats 4000000 in
set_option maxRecDepth 20000 in
theorem frame_whole_ok {call : CallF} (hc : SaysAll Try.prog call) {n : Nat} {t0 : Bytes} {h : AHeap} {rR : ARes} {hR : AHeap} (hF : frame_whole call n t0 h = some (rR, hR)) : Says Try.prog 86 [strA t0] h rR hR := by
 unfold frame_whole at hF
 refine sO Try.func86 fun w0 m0 => ?_
 refine wW [(0, strA t0)] ?_
 refine oG fun n1 => W.r ?_
 refine oA 2 (.bool false) ?_
 refine oV [(0, strA t0)] (n1 ?_)
 refine oG fun n2 => W.r ?_
 refine oA 4 (strA t0) ?_
 refine oA 5 (.int .i64 (lenS t0)) ?_
 refine oI 6 .i64 hF fun t6 hF => ?_
 refine oA 3 (.int .i64 t6) ?_
 refine oV [(0, strA t0), (3, .int .i64 t6)] (n2 ?_)
 refine oG fun n4 => ?_
 refine W.draw (by kernel_rfl) (hc.ok w0) (plan := [0, 1, 2, 5, 6, 7, 3, 4, 8, 9, 10]) (by kernel_rfl) (by kernel_rfl) (by kernel_rfl) ?_
 refine WD.a 0 (some 7) (strA t0) h ?_
 refine WD.a 0 (some 8) (.int .i64 t6) h ?_
 obtain ⟨t9, e5, hF⟩ := obind_some hF
 refine WD.b 0 (some 9) (strA t9) h (slice_str (P := Try.prog) (h := h) (t := 9) (A := (some (.int .i64 t6))) (B := none) (by kernel_rfl) (.inl ⟨_, rfl⟩) (.inr ⟨rfl, rfl⟩) e5) ?_
 refine WD.a 0 (some 12) (strA t0) h ?_
 refine WD.a 0 (some 13) (.int .i64 t6) h ?_
 obtain ⟨t14, e6, hF⟩ := obind_some hF
 refine WD.b 0 (some 14) (strA t14) h (slice_str (P := Try.prog) (h := h) (t := 9) (A := none) (B := (some (.int .i64 t6))) (by kernel_rfl) (.inr ⟨rfl, rfl⟩) (.inl ⟨_, rfl⟩) e6) ?_
 obtain ⟨r10, h_7, e8, hF⟩ := callN_some hF
 refine WD.call (d := (some 10)) (by kernel_rfl) (by kernel_rfl) (by kernel_rfl) e8 (k := 2) (by kernel_rfl) (fun _ => (by kernel_rfl)) (by decide) ?_
 replace hF := callN_some hF; obtain ⟨r11, h_9, e10, hF⟩ := hF
 replace hF := obind_some hF; obtain ⟨t11, c11, hF⟩ := hF
 have c11 := avInt_some c11
 subst c11
 refine WD.call (d := (some 11)) (by kernel_rfl) (by kernel_rfl) (by kernel_rfl) e10 (k := 2) (by kernel_rfl) (fun _ => (by kernel_rfl)) (by decide) ?_
 replace hF := callN_some hF; obtain ⟨r15, h_12, e13, hF⟩ := hF
 replace hF := obind_some hF; obtain ⟨t15, c14, hF⟩ := hF
 have c14 := avInt_some c14
 subst c14
 refine WD.call (d := (some 15)) (by kernel_rfl) (by kernel_rfl) (by kernel_rfl) e13 (k := 2) (by kernel_rfl) (fun _ => (by kernel_rfl)) (by decide) ?_
 obtain ⟨t16, e15, hF⟩ := lett_some hF
 refine WD.val (d := (some 16)) (v := .bool t16) (h' := h_12) (by kernel_rfl) (by kernel_rfl) (val_of AV.bool e15 (by kernel_rfl)) (k := 0) (by kernel_rfl) (fun e => absurd e (by decide)) (by decide) ?_
 refine WD.a 0 (some 2) (.bool t16) h_12 ?_
 refine WD.nil ?_
 refine gW [(2, .bool t16)] (n4 (oY ?_))
 exact lZ hF [.tmp 2] [.bool t16] (rT res_nil)
noncomputable def frame_Put (call : CallF) (_ : Nat) (t0 : Bytes) (h : AHeap) : R :=
 lett (decide ((lenS t0) > 4096)) fun (t6 : Bool) =>
 ifB t6
 (
  some (.ret (.tup [strA ([] : Bytes), .int .i64 3]), h))
 (
  lett (IntKind.u32.wrap (lenS t0)) fun (t9 : Int) =>
  callN (call 82 [.int .u32 t9] h) fun r10 h_8 =>
  obind (avStr r10) fun t10 =>
  callN (call 81 [strA t10] h_8) fun r11 h_11 =>
  obind (avStr r11) fun t11 =>
  callN (call 81 [strA t0] h_11) fun r13 h_14 =>
  obind (avStr r13) fun t13 =>
  obind (addS t11 t13) fun t14 =>
  some (.ret (.tup [strA t14, .int .i64 0]), h_14))
set_option maxHeartbeats 4000000 in
set_option maxRecDepth 20000 in
theorem frame_Put_ok {call : CallF} (hc : SaysAll Try.prog call) {n : Nat} {t0 : Bytes} {h : AHeap} {rR : ARes} {hR : AHeap} (hF : frame_Put call n t0 h = some (rR, hR)) : Says Try.prog 60 [strA t0] h rR hR := by
 unfold frame_Put at hF
 refine sO Try.func60 fun w0 m0 => ?_
 refine wW [(0, strA t0)] ?_
 refine oG fun n1 => W.r ?_
 refine oA 2 (strA ([] : Bytes)) ?_
 refine oA 3 (.int .i64 0) ?_
 refine oV [(0, strA t0)] (n1 ?_)
 refine oH fun n2 q2 => ?_
 refine oG fun n3 => W.r ?_
 refine oA 4 (strA t0) ?_
 refine oA 5 (.int .i64 (lenS t0)) ?_
 refine oB 6 hF fun t6 hF => ?_
 refine oV [(0, strA t0), (6, .bool t6)] (n3 ?_)
 cases t6 with
 | true =>
  refine oT hF fun hF => ?_
  refine oG fun n5 => W.r ?_
  refine oA 2 (strA ([] : Bytes)) ?_
  refine oA 3 (.int .i64 3) ?_
  refine oV [(2, strA ([] : Bytes)), (3, .int .i64 3)] (n5 (oY (q2 ?_)))
  exact lZ hF [.tmp 2, .tmp 3] [strA ([] : Bytes), .int .i64 3] (rT (rT res_nil))
 | false =>
  refine oU hF fun hF => ?_
  refine oZ (n2 ?_)
  refine oG fun n6 => W.r ?_
  refine oA 7 (strA t0) ?_
  refine oA 8 (.int .i64 (lenS t0)) ?_
  refine oI 9 .u32 hF fun t9 hF => ?_
  refine oCs hc 10 hF fun t10 h_8 hF => ?_
  refine oCs hc 11 hF fun t11 h_11 hF => ?_
  refine oA 12 (strA t0) ?_
  refine oCs hc 13 hF fun t13 h_14 hF => ?_
  obtain ⟨t14, e17, hF⟩ := obind_some hF
  refine WL.b (some 14) (strA t14) h_14 (add_str (P := Try.prog) (h := h_14) (t := 9) (lit := false) e17) ?_
  refine oA 2 (strA t14) ?_
  refine oA 3 (.int .i64 0) ?_
  refine oV [(2, strA t14), (3, .int .i64 0)] (n6 (oY ?_))
  exact lZ hF [.tmp 2, .tmp 3] [strA t14, .int .i64 0] (rT (rT res_nil))
noncomputable def frame_Take (call : CallF) (_ : Nat) (t0 : Bytes) (h : AHeap) : R :=
 lett (decide ((lenS t0) < 8)) fun (t9 : Bool) =>
 ifB t9
 (
  some (.ret (.tup [strA ([] : Bytes), .int .i64 0, .int .i64 30]), h))
 (
  callN (call 75 [strA t0] h) fun r11 h_7 =>
  callN (call 85 [r11] h_7) fun r12 h_9 =>
  obind (avInt .u32 r12) fun t12 =>
  lett (decide (t12 > 4096)) fun (t14 : Bool) =>
  lett (fun (t20 : Bool) (h_15 : AHeap) =>
   ifB t20
   (
    some (.ret (.tup [strA ([] : Bytes), .int .i64 0, .int .i64 7]), h_15))
   (
    lett (IntKind.i64.wrap t12) fun (t22 : Int) =>
    lett (IntKind.i64.wrap (8 + t22)) fun (t23 : Int) =>
    lett (IntKind.i64.wrap (t23 + 4)) fun (t24 : Int) =>
    lett (decide ((lenS t0) < t24)) fun (t28 : Bool) =>
    ifB t28
    (
     some (.ret (.tup [strA ([] : Bytes), .int .i64 0, .int .i64 30]), h_15))
    (
     obind (sliceS t0 8 t24) fun t31 =>
     callN (call 86 [strA t31] h_15) fun r32 h_30 =>
     obind (avBool r32) fun t32 =>
     lett (!t32) fun (t33 : Bool) =>
     ifB t33
     (
      some (.ret (.tup [strA ([] : Bytes), .int .i64 0, .int .i64 7]), h_30))
     (
      lett (IntKind.i64.wrap (t24 - 4)) fun (t36 : Int) =>
      obind (sliceS t0 8 t36) fun t37 =>
      some (.ret (.tup [strA t37, .int .i64 t24, .int .i64 0]), h_30))))) fun j20 =>
  ifB t14
  (
   j20 true h_9)
  (
   obind (sliceS t0 0 8) fun t17 =>
   callN (call 86 [strA t17] h_9) fun r18 h_39 =>
   obind (avBool r18) fun t18 =>
   lett (!t18) fun (t19 : Bool) =>
   j20 t19 h_39))
set_option maxHeartbeats 4000000 in
set_option maxRecDepth 20000 in
theorem frame_Take_ok {call : CallF} (hc : SaysAll Try.prog call) {n : Nat} {t0 : Bytes} {h : AHeap} {rR : ARes} {hR : AHeap} (hF : frame_Take call n t0 h = some (rR, hR)) : Says Try.prog 74 [strA t0] h rR hR := by
 unfold frame_Take at hF
 refine sO Try.func74 fun w0 m0 => ?_
 refine wW [(0, strA t0)] ?_
 refine oG fun n1 => W.r ?_
 refine oA 2 (strA ([] : Bytes)) ?_
 refine oA 3 (.int .i64 0) ?_
 refine oA 4 (.int .i64 0) ?_
 refine oV [(0, strA t0)] (n1 ?_)
 refine oH fun n2 q2 => ?_
 refine oG fun n3 => W.r ?_
 refine oA 7 (strA t0) ?_
 refine oA 8 (.int .i64 (lenS t0)) ?_
 refine oB 9 hF fun t9 hF => ?_
 refine oV [(0, strA t0), (9, .bool t9)] (n3 ?_)
 cases t9 with
 | true =>
  refine oT hF fun hF => ?_
  refine oG fun n5 => W.r ?_
  refine oA 2 (strA ([] : Bytes)) ?_
  refine oA 3 (.int .i64 0) ?_
  refine oA 4 (.int .i64 30) ?_
  refine oV [(2, strA ([] : Bytes)), (3, .int .i64 0), (4, .int .i64 30)] (n5 (oY (q2 ?_)))
  exact lZ hF [.tmp 2, .tmp 3, .tmp 4] [strA ([] : Bytes), .int .i64 0, .int .i64 30] (rT (rT (rT res_nil)))
 | false =>
  refine oU hF fun hF => ?_
  refine oZ (n2 ?_)
  refine oG fun n6 => W.r ?_
  refine oA 10 (strA t0) ?_
  refine oC hc (some 11) hF fun r11 h_7 hF => ?_
  refine oCi hc 12 hF fun t12 h_9 hF => ?_
  refine oA 5 (.int .u32 t12) ?_
  refine oV [(0, strA t0), (5, .int .u32 t12)] (n6 ?_)
  refine oH fun n12 q12 => ?_
  refine W.s (fun K13 n13 e13 q13 p13 => ?_)
  refine W.r ?_
  refine oA 13 (.int .u32 t12) ?_
  refine oB 14 hF fun t14 hF => ?_
  refine oA 15 (.bool t14) ?_
  obtain ⟨j20, e16, hF⟩ := lett_some hF
  have J17 : ∀ (t20 : Bool) (h_15 : AHeap), j20 t20 h_15 = some (rR, hR) → WL Try.prog w0 m0 (Func.ntmps Try.f74) (Code.ops (Code.p1 (Code.p1 (Code.p2 (Code.p2 (Code.p2 (codeOf Try.f74))))))) 8 K13 [(0, strA t0), (5, .int .u32 t12), (20, .bool t20)] [] h_15 := by
   intro t20 h_15 hF
   rw [e16] at hF
   refine oV [(0, strA t0), (5, .int .u32 t12), (20, .bool t20)] (n13 ?_)
   cases t20 with
   | true =>
    refine oT hF fun hF => ?_
    refine oG fun n18 => W.r ?_
    refine oA 2 (strA ([] : Bytes)) ?_
    refine oA 3 (.int .i64 0) ?_
    refine oA 4 (.int .i64 7) ?_
    refine oV [(2, strA ([] : Bytes)), (3, .int .i64 0), (4, .int .i64 7)] (n18 (oY (q12 ?_)))
    exact lZ hF [.tmp 2, .tmp 3, .tmp 4] [strA ([] : Bytes), .int .i64 0, .int .i64 7] (rT (rT (rT res_nil)))
   | false =>
    refine oU hF fun hF => ?_
    refine oZ (n12 ?_)
    refine oG fun n19 => W.r ?_
    refine oA 21 (.int .u32 t12) ?_
    refine oI 22 .i64 hF fun t22 hF => ?_
    refine oI 23 .i64 hF fun t23 hF => ?_
    refine oI 24 .i64 hF fun t24 hF => ?_
    refine oA 6 (.int .i64 t24) ?_
    refine oV [(0, strA t0), (6, .int .i64 t24)] (n19 ?_)
    refine oH fun n23 q23 => ?_
    refine oG fun n24 => W.r ?_
    refine oA 25 (strA t0) ?_
    refine oA 26 (.int .i64 (lenS t0)) ?_
    refine oA 27 (.int .i64 t24) ?_
    refine oB 28 hF fun t28 hF => ?_
    refine oV [(0, strA t0), (6, .int .i64 t24), (28, .bool t28)] (n24 ?_)
    cases t28 with
    | true =>
     refine oT hF fun hF => ?_
     refine oG fun n26 => W.r ?_
     refine oA 2 (strA ([] : Bytes)) ?_
     refine oA 3 (.int .i64 0) ?_
     refine oA 4 (.int .i64 30) ?_
     refine oV [(2, strA ([] : Bytes)), (3, .int .i64 0), (4, .int .i64 30)] (n26 (oY (q23 ?_)))
     exact lZ hF [.tmp 2, .tmp 3, .tmp 4] [strA ([] : Bytes), .int .i64 0, .int .i64 30] (rT (rT (rT res_nil)))
    | false =>
     refine oU hF fun hF => ?_
     refine oZ (n23 ?_)
     refine oH fun n27 q27 => ?_
     refine oG fun n28 => W.r ?_
     refine oA 29 (strA t0) ?_
     refine oA 30 (.int .i64 t24) ?_
     obtain ⟨t31, e29, hF⟩ := obind_some hF
     refine WL.b (some 31) (strA t31) h_15 (slice_str (P := Try.prog) (h := h_15) (t := 9) (A := (some (.int .i64 8))) (B := (some (.int .i64 t24))) (by kernel_rfl) (.inl ⟨_, rfl⟩) (.inl ⟨_, rfl⟩) e29) ?_
     refine oCb hc 32 hF fun t32 h_30 hF => ?_
     refine oB 33 hF fun t33 hF => ?_
     refine oV [(0, strA t0), (6, .int .i64 t24), (33, .bool t33)] (n28 ?_)
     cases t33 with
     | true =>
      refine oT hF fun hF => ?_
      refine oG fun n34 => W.r ?_
      refine oA 2 (strA ([] : Bytes)) ?_
      refine oA 3 (.int .i64 0) ?_
      refine oA 4 (.int .i64 7) ?_
      refine oV [(2, strA ([] : Bytes)), (3, .int .i64 0), (4, .int .i64 7)] (n34 (oY (q27 ?_)))
      exact lZ hF [.tmp 2, .tmp 3, .tmp 4] [strA ([] : Bytes), .int .i64 0, .int .i64 7] (rT (rT (rT res_nil)))
     | false =>
      refine oU hF fun hF => ?_
      refine oZ (n27 ?_)
      refine oG fun n35 => W.r ?_
      refine oA 34 (strA t0) ?_
      refine oA 35 (.int .i64 t24) ?_
      refine oI 36 .i64 hF fun t36 hF => ?_
      obtain ⟨t37, e37, hF⟩ := obind_some hF
      refine WL.b (some 37) (strA t37) h_30 (slice_str (P := Try.prog) (h := h_30) (t := 9) (A := (some (.int .i64 8))) (B := (some (.int .i64 t36))) (by kernel_rfl) (.inl ⟨_, rfl⟩) (.inl ⟨_, rfl⟩) e37) ?_
      refine oA 38 (.int .i64 t24) ?_
      refine oA 2 (strA t37) ?_
      refine oA 3 (.int .i64 t24) ?_
      refine oA 4 (.int .i64 0) ?_
      refine oV [(2, strA t37), (3, .int .i64 t24), (4, .int .i64 0)] (n35 (oY ?_))
      exact lZ hF [.tmp 2, .tmp 3, .tmp 4] [strA t37, .int .i64 t24, .int .i64 0] (rT (rT (rT res_nil)))
  cases t14 with
  | true =>
   replace hF := ifB_t hF
   refine WL.o (some 16) ?_
   refine WL.o (some 17) ?_
   refine WL.o (some 18) ?_
   refine WL.o (some 19) ?_
   refine oA 20 (.bool true) ?_
   exact lW _ (J17 _ _ hF)
  | false =>
   replace hF := ifB_f hF
   refine oA 16 (strA t0) ?_
   obtain ⟨t17, e38, hF⟩ := obind_some hF
   refine WL.b (some 17) (strA t17) h_9 (slice_str (P := Try.prog) (h := h_9) (t := 9) (A := none) (B := (some (.int .i64 8))) (by kernel_rfl) (.inr ⟨rfl, rfl⟩) (.inl ⟨_, rfl⟩) e38) ?_
   refine oCb hc 18 hF fun t18 h_39 hF => ?_
   refine oB 19 hF fun t19 hF => ?_
   refine oA 20 (.bool t19) ?_
   exact lW _ (J17 _ _ hF)
noncomputable def frame_All (_ : CallF) (_ : Nat) (t0 : Bytes) (h : AHeap) : R :=
 lett (newH h 9 [strA t0]) fun h_2 =>
 some (.ret (AV.fn 73 [] [(newP h)]), h_2)
set_option maxHeartbeats 4000000 in
set_option maxRecDepth 20000 in
theorem frame_All_ok {call : CallF} (_ : SaysAll Try.prog call) {n : Nat} {t0 : Bytes} {h : AHeap} {rR : ARes} {hR : AHeap} (hF : frame_All call n t0 h = some (rR, hR)) : Says Try.prog 54 [strA t0] h rR hR := by
 unfold frame_All at hF
 refine sO Try.func54 fun w0 m0 => ?_
 refine wW [(0, strA t0)] ?_
 refine oG fun n1 => W.r ?_
 refine oN 1 hF fun h_2 hF => ?_
 refine oA 2 AV.nfn ?_
 refine oV [(1, (newP h))] (n1 ?_)
 refine oG fun n4 => W.r ?_
 refine oA 3 (AV.fn 73 [] [(newP h)]) ?_
 refine oA 2 (AV.fn 73 [] [(newP h)]) ?_
 refine oV [(2, (AV.fn 73 [] [(newP h)]))] (n4 (oY ?_))
 exact lZ hF [.tmp 2] [(AV.fn 73 [] [(newP h)])] (rT res_nil)
noncomputable def wire_U32 (call : CallF) (_ : Nat) (t0 : Int) (h : AHeap) : R :=
 lett (IntKind.u64.wrap t0) fun (t4 : Int) =>
 callN (call 79 [.int .u64 t4, .int .i64 4] h) fun r5 h_4 =>
 obind (avStr r5) fun t5 =>
 some (.ret (strA t5), h_4)
set_option maxHeartbeats 4000000 in
set_option maxRecDepth 20000 in
theorem wire_U32_ok {call : CallF} (hc : SaysAll Try.prog call) {n : Nat} {t0 : Int} {h : AHeap} {rR : ARes} {hR : AHeap} (hF : wire_U32 call n t0 h = some (rR, hR)) : Says Try.prog 82 [.int .u32 t0] h rR hR := by
 unfold wire_U32 at hF
 refine sO Try.func82 fun w0 m0 => ?_
 refine wW [(0, .int .u32 t0)] ?_
 refine oG fun n1 => W.r ?_
 refine oA 2 (strA ([] : Bytes)) ?_
 refine oV [(0, .int .u32 t0)] (n1 ?_)
 refine oG fun n2 => W.r ?_
 refine oA 3 (.int .u32 t0) ?_
 refine oI 4 .u64 hF fun t4 hF => ?_
 refine oCs hc 5 hF fun t5 h_4 hF => ?_
 refine oA 2 (strA t5) ?_
 refine oV [(2, strA t5)] (n2 (oY ?_))
 exact lZ hF [.tmp 2] [strA t5] (rT res_nil)
noncomputable def wire_U64 (call : CallF) (_ : Nat) (t0 : Int) (h : AHeap) : R :=
 callN (call 79 [.int .u64 t0, .int .i64 8] h) fun r4 h_3 =>
 obind (avStr r4) fun t4 =>
 some (.ret (strA t4), h_3)
set_option maxHeartbeats 4000000 in
set_option maxRecDepth 20000 in
theorem wire_U64_ok {call : CallF} (hc : SaysAll Try.prog call) {n : Nat} {t0 : Int} {h : AHeap} {rR : ARes} {hR : AHeap} (hF : wire_U64 call n t0 h = some (rR, hR)) : Says Try.prog 58 [.int .u64 t0] h rR hR := by
 unfold wire_U64 at hF
 refine sO Try.func58 fun w0 m0 => ?_
 refine wW [(0, .int .u64 t0)] ?_
 refine oG fun n1 => W.r ?_
 refine oA 2 (strA ([] : Bytes)) ?_
 refine oV [(0, .int .u64 t0)] (n1 ?_)
 refine oG fun n2 => W.r ?_
 refine oA 3 (.int .u64 t0) ?_
 refine oCs hc 4 hF fun t4 h_3 hF => ?_
 refine oA 2 (strA t4) ?_
 refine oV [(2, strA t4)] (n2 (oY ?_))
 exact lZ hF [.tmp 2] [strA t4] (rT res_nil)
noncomputable def wire_New (_ : CallF) (_ : Nat) (t0 : Bytes) (h : AHeap) : R :=
 outK (opBox h 160 (some (.agg ([strA t0, .int .i64 0, .int .i64 0, .int .i64 0] : List AV)))) fun v5 h_3 =>
 some (.ret (v5), h_3)
set_option maxHeartbeats 4000000 in
set_option maxRecDepth 20000 in
theorem wire_New_ok {call : CallF} (_ : SaysAll Try.prog call) {n : Nat} {t0 : Bytes} {h : AHeap} {rR : ARes} {hR : AHeap} (hF : wire_New call n t0 h = some (rR, hR)) : Says Try.prog 75 [strA t0] h rR hR := by
 unfold wire_New at hF
 refine sO Try.func75 fun w0 m0 => ?_
 refine wW [(0, strA t0)] ?_
 refine oG fun n1 => W.r ?_
 refine oA 2 AV.nilp ?_
 refine oV [(0, strA t0)] (n1 ?_)
 refine oG fun n2 => W.r ?_
 refine oA 3 (strA t0) ?_
 refine oA 4 (.agg ([strA t0, .int .i64 0, .int .i64 0, .int .i64 0] : List AV)) ?_
 refine oK 5 hF fun v5 h_3 hF => ?_
 refine oA 2 v5 ?_
 refine oV [(2, v5)] (n2 (oY ?_))
 exact lZ hF [.tmp 2] [v5] (rT res_nil)
noncomputable def wire_number_L0b (v8 : AV) (k9 : AHeap → R) (self : Int → Int → AHeap → R) (t0_16 : Int) (t6 : Int) (h_17 : AHeap) : R :=
 lett (decide (t6 ≥ 0)) fun (t12 : Bool) =>
 ifB t12
 (
  lett (IntKind.u8.wrap t0_16) fun (t18 : Int) =>
  obind (idxP 1 v8 t6) fun t19 =>
  obind (stRow h_17 1 [.int .u8 t18] t19) fun h_26 =>
  obind (shrI .u64 t0_16 8) fun t21 =>
  lett (IntKind.i64.wrap (t6 - 1)) fun (t14 : Int) =>
  self t21 t14 h_26)
 (
  k9 h_17)
noncomputable def wire_number_L0 (v8 : AV) (k9 : AHeap → R) : Nat → Int → Int → AHeap → R := iterR (fun _ _ _ => none) (wire_number_L0b v8 k9)
theorem wire_number_L0_s (v8 : AV) (k9 : AHeap → R) (m : Nat) : wire_number_L0 v8 k9 (m + 1) = wire_number_L0b v8 k9 (wire_number_L0 v8 k9 m) := rfl
noncomputable def wire_number (_ : CallF) (n : Nat) (t0 : Int) (t1 : Int) (h : AHeap) : R :=
 outK (opMakeSlice Try.prog h 37 (some (.int .i64 t1)) (some (.int .i64 t1))) fun v8 h_3 =>
 lett (IntKind.i64.wrap (t1 - 1)) fun (t10 : Int) =>
 lett (fun  (h_10 : AHeap) =>
  outK (opConv Try.prog h_10 37 9 (some v8)) fun v23 h_12 =>
  obind (avStr v23) fun t23 =>
  some (.ret (strA t23), h_12)) fun k9 =>
 wire_number_L0 v8 k9 n t0 t10 h_3
set_option maxHeartbeats 4000000 in
set_option maxRecDepth 20000 in
theorem wire_number_ok {call : CallF} (_ : SaysAll Try.prog call) {n : Nat} {t0 : Int} {t1 : Int} {h : AHeap} {rR : ARes} {hR : AHeap} (hF : wire_number call n t0 t1 h = some (rR, hR)) : Says Try.prog 79 [.int .u64 t0, .int .i64 t1] h rR hR := by
 unfold wire_number at hF
 refine sO Try.func79 fun w0 m0 => ?_
 refine wW [(0, .int .u64 t0), (1, .int .i64 t1)] ?_
 refine oG fun n1 => W.r ?_
 refine oA 4 (strA ([] : Bytes)) ?_
 refine oV [(0, .int .u64 t0), (1, .int .i64 t1)] (n1 ?_)
 refine oG fun n2 => W.r ?_
 refine oA 7 (.int .i64 t1) ?_
 refine oK 8 hF fun v8 h_3 hF => ?_
 refine oA 5 v8 ?_
 refine oV [(0, .int .u64 t0), (1, .int .i64 t1), (5, v8)] (n2 ?_)
 refine W.s (fun K5 n5 e5 q5 p5 => ?_)
 refine oG fun n6 => W.r ?_
 refine oA 9 (.int .i64 t1) ?_
 refine oI 10 .i64 hF fun t10 hF => ?_
 refine oA 6 (.int .i64 t10) ?_
 refine oV [(0, .int .u64 t0), (5, v8), (6, .int .i64 t10)] (n6 ?_)
 obtain ⟨k9, e9, hF⟩ := lett_some hF
 have J9 : ∀  (h_10 : AHeap), k9 h_10 = some (rR, hR) → Go w0 m0 (Func.ntmps Try.f79) (K5 .normal) [(5, v8)] [] h_10 := by
  intro  h_10 hF
  rw [e9] at hF
  refine n5 ?_
  refine oG fun n11 => W.r ?_
  refine oA 22 v8 ?_
  replace hF := outK_some hF; obtain ⟨v23, h_12, e13, hF⟩ := hF
  replace hF := obind_some hF; obtain ⟨t23, c14, hF⟩ := hF
  have c14 := avStr_some c14
  subst c14
  refine WL.b (some 23) (strA t23) h_12 e13 ?_
  refine oA 4 (strA t23) ?_
  refine oV [(4, strA t23)] (n11 (oY ?_))
  exact lZ hF [.tmp 4] [strA t23] (rT res_nil)
 refine W.blockK (by kernel_rfl) (fun K8 n8 s8 o8 q8 p8 => ?_)
 refine W.loopK (by kernel_rfl) (fun I15 K15 b15 n15 e15 q15 p15 => ?_)
 have L15 : ∀ (m : Nat) (t0_16 : Int) (t6 : Int) (h_17 : AHeap), wire_number_L0 v8 k9 m t0_16 t6 h_17 = some (rR, hR) → Go w0 m0 (Func.ntmps Try.f79) I15 [(0, .int .u64 t0_16), (5, v8), (6, .int .i64 t6)] [] h_17 := by
  intro m
  induction m with
  | zero => intro t0_16 t6 h_17 hF; cases hF
  | succ m ih15 =>
   intro t0_16 t6 h_17 hF
   rw [wire_number_L0_s] at hF; unfold wire_number_L0b at hF
   refine b15 ?_
   refine W.s (fun K18 n18 e18 q18 p18 => ?_)
   refine oG fun n19 => W.r ?_
   refine oA 11 (.int .i64 t6) ?_
   refine oB 12 hF fun t12 hF => ?_
   refine oV [(0, .int .u64 t0_16), (5, v8), (6, .int .i64 t6), (12, .bool t12)] (n19 ?_)
   cases t12 with
   | true =>
    refine oT hF fun hF => ?_
    refine oZ (n18 ?_)
    refine oG fun n21 => ?_
    refine W.blockK (by kernel_rfl) (fun K22 n22 s22 o22 q22 p22 => ?_)
    refine oG fun n23 => W.r ?_
    refine oA 15 v8 ?_
    refine oA 16 (.int .i64 t6) ?_
    refine oA 17 (.int .u64 t0_16) ?_
    refine oI 18 .u8 hF fun t18 hF => ?_
    refine oP 19 37 5 .i64 hF fun t19 hF => ?_
    refine oW 5 (.int .u8 t18) hF fun h_26 hF => ?_
    refine oV [(0, .int .u64 t0_16), (5, v8), (6, .int .i64 t6)] (n23 (W.r ?_))
    refine oA 20 (.int .u64 t0_16) ?_
    obtain ⟨t21, e28, hF⟩ := obind_some hF
    refine WL.b (some 21) (.int .u64 t21) h_26 (shr_int (P := Try.prog) (h := h_26) (t := 127) (k' := .u64) (lit := true) e28) ?_
    refine oA 0 (.int .u64 t21) ?_
    refine oV [(0, .int .u64 t21), (5, v8), (6, .int .i64 t6)] (n22 (n21 (W.r ?_)))
    refine oA 13 (.int .i64 t6) ?_
    refine oI 14 .i64 hF fun t14 hF => ?_
    refine oA 6 (.int .i64 t14) ?_
    refine oV [(0, .int .u64 t21), (5, v8), (6, .int .i64 t14)] (n15 ?_)
    exact gW _ (ih15 _ _ _ hF)
   | false =>
    refine oU hF fun hF => ?_
    refine W.exit (by kernel_rfl) ?_
    refine e18 (e15 ?_)
    refine s8 (by kernel_rfl) ?_
    exact gW _ (J9 _ hF)
 exact gW _ (L15 _ _ _ _ hF)
noncomputable def wire_length (call : CallF) (_ : Nat) (t0 : Bytes) (h : AHeap) : R :=
 lett (IntKind.u32.wrap (lenS t0)) fun (t5 : Int) =>
 callN (call 82 [.int .u32 t5] h) fun r6 h_4 =>
 obind (avStr r6) fun t6 =>
 some (.ret (strA t6), h_4)
set_option maxHeartbeats 4000000 in
set_option maxRecDepth 20000 in
theorem wire_length_ok {call : CallF} (hc : SaysAll Try.prog call) {n : Nat} {t0 : Bytes} {h : AHeap} {rR : ARes} {hR : AHeap} (hF : wire_length call n t0 h = some (rR, hR)) : Says Try.prog 80 [strA t0] h rR hR := by
 unfold wire_length at hF
 refine sO Try.func80 fun w0 m0 => ?_
 refine wW [(0, strA t0)] ?_
 refine oG fun n1 => W.r ?_
 refine oA 2 (strA ([] : Bytes)) ?_
 refine oV [(0, strA t0)] (n1 ?_)
 refine oG fun n2 => W.r ?_
 refine oA 3 (strA t0) ?_
 refine oA 4 (.int .i64 (lenS t0)) ?_
 refine oI 5 .u32 hF fun t5 hF => ?_
 refine oCs hc 6 hF fun t6 h_4 hF => ?_
 refine oA 2 (strA t6) ?_
 refine oV [(2, strA t6)] (n2 (oY ?_))
 exact lZ hF [.tmp 2] [strA t6] (rT res_nil)
noncomputable def wire_Text (call : CallF) (_ : Nat) (t0 : Bytes) (h : AHeap) : R :=
 lett (decide ((lenS t0) > 1048576)) fun (t6 : Bool) =>
 ifB t6
 (
  some (.ret (.tup [strA ([] : Bytes), .int .i64 3]), h))
 (
  callN (call 80 [strA t0] h) fun r8 h_7 =>
  obind (avStr r8) fun t8 =>
  obind (addS t8 t0) fun t10 =>
  some (.ret (.tup [strA t10, .int .i64 0]), h_7))
set_option maxHeartbeats 4000000 in
set_option maxRecDepth 20000 in
theorem wire_Text_ok {call : CallF} (hc : SaysAll Try.prog call) {n : Nat} {t0 : Bytes} {h : AHeap} {rR : ARes} {hR : AHeap} (hF : wire_Text call n t0 h = some (rR, hR)) : Says Try.prog 59 [strA t0] h rR hR := by
 unfold wire_Text at hF
 refine sO Try.func59 fun w0 m0 => ?_
 refine wW [(0, strA t0)] ?_
 refine oG fun n1 => W.r ?_
 refine oA 2 (strA ([] : Bytes)) ?_
 refine oA 3 (.int .i64 0) ?_
 refine oV [(0, strA t0)] (n1 ?_)
 refine oH fun n2 q2 => ?_
 refine oG fun n3 => W.r ?_
 refine oA 4 (strA t0) ?_
 refine oA 5 (.int .i64 (lenS t0)) ?_
 refine oB 6 hF fun t6 hF => ?_
 refine oV [(0, strA t0), (6, .bool t6)] (n3 ?_)
 cases t6 with
 | true =>
  refine oT hF fun hF => ?_
  refine oG fun n5 => W.r ?_
  refine oA 2 (strA ([] : Bytes)) ?_
  refine oA 3 (.int .i64 3) ?_
  refine oV [(2, strA ([] : Bytes)), (3, .int .i64 3)] (n5 (oY (q2 ?_)))
  exact lZ hF [.tmp 2, .tmp 3] [strA ([] : Bytes), .int .i64 3] (rT (rT res_nil))
 | false =>
  refine oU hF fun hF => ?_
  refine oZ (n2 ?_)
  refine oG fun n6 => W.r ?_
  refine oA 7 (strA t0) ?_
  refine oCs hc 8 hF fun t8 h_7 hF => ?_
  refine oA 9 (strA t0) ?_
  obtain ⟨t10, e10, hF⟩ := obind_some hF
  refine WL.b (some 10) (strA t10) h_7 (add_str (P := Try.prog) (h := h_7) (t := 9) (lit := false) e10) ?_
  refine oA 2 (strA t10) ?_
  refine oA 3 (.int .i64 0) ?_
  refine oV [(2, strA t10), (3, .int .i64 0)] (n6 (oY ?_))
  exact lZ hF [.tmp 2, .tmp 3] [strA t10, .int .i64 0] (rT (rT res_nil))
noncomputable def wire_Reader_U32 (call : CallF) (_ : Nat) (t0 : AV) (h : AHeap) : R :=
 callN (call 87 [t0, .int .i64 4] h) fun r4 h_3 =>
 obind (avInt .u64 r4) fun t4 =>
 lett (IntKind.u32.wrap t4) fun (t5 : Int) =>
 some (.ret (.int .u32 t5), h_3)
set_option maxHeartbeats 4000000 in
set_option maxRecDepth 20000 in
theorem wire_Reader_U32_ok {call : CallF} (hc : SaysAll Try.prog call) {n : Nat} {t0 : AV} {h : AHeap} {rR : ARes} {hR : AHeap} (hF : wire_Reader_U32 call n t0 h = some (rR, hR)) : Says Try.prog 85 [t0] h rR hR := by
 unfold wire_Reader_U32 at hF
 refine sO Try.func85 fun w0 m0 => ?_
 refine wW [(0, t0)] ?_
 refine oG fun n1 => W.r ?_
 refine oA 2 (.int .u32 0) ?_
 refine oV [(0, t0)] (n1 ?_)
 refine oG fun n2 => W.r ?_
 refine oA 3 t0 ?_
 refine oCi hc 4 hF fun t4 h_3 hF => ?_
 refine oI 5 .u32 hF fun t5 hF => ?_
 refine oA 2 (.int .u32 t5) ?_
 refine oV [(2, .int .u32 t5)] (n2 (oY ?_))
 exact lZ hF [.tmp 2] [.int .u32 t5] (rT res_nil)
noncomputable def wire_Reader_U64 (call : CallF) (_ : Nat) (t0 : AV) (h : AHeap) : R :=
 callN (call 87 [t0, .int .i64 8] h) fun r4 h_3 =>
 obind (avInt .u64 r4) fun t4 =>
 some (.ret (.int .u64 t4), h_3)
set_option maxHeartbeats 4000000 in
set_option maxRecDepth 20000 in
theorem wire_Reader_U64_ok {call : CallF} (hc : SaysAll Try.prog call) {n : Nat} {t0 : AV} {h : AHeap} {rR : ARes} {hR : AHeap} (hF : wire_Reader_U64 call n t0 h = some (rR, hR)) : Says Try.prog 76 [t0] h rR hR := by
 unfold wire_Reader_U64 at hF
 refine sO Try.func76 fun w0 m0 => ?_
 refine wW [(0, t0)] ?_
 refine oG fun n1 => W.r ?_
 refine oA 2 (.int .u64 0) ?_
 refine oV [(0, t0)] (n1 ?_)
 refine oG fun n2 => W.r ?_
 refine oA 3 t0 ?_
 refine oCi hc 4 hF fun t4 h_3 hF => ?_
 refine oA 2 (.int .u64 t4) ?_
 refine oV [(2, .int .u64 t4)] (n2 (oY ?_))
 exact lZ hF [.tmp 2] [.int .u64 t4] (rT res_nil)
noncomputable def wire_Reader_End (call : CallF) (_ : Nat) (t0 : AV) (h : AHeap) : R :=
 lett (newH h 151 [.int .i64 0, .int .i64 0]) fun h_2 =>
 lett (fun (t16 : Bool) (h_7 : AHeap) =>
  ifB t16
  (
   obind (nilC t0) fun t18 =>
   obind (fldP 1 t18) fun t19 =>
   obind (ldCell h_7 t19) fun v20 =>
   obind (avInt .i64 v20) fun t20 =>
   obind (stRow h_7 2 ([.int .i64 7, .int .i64 t20] : List AV) (newP h)) fun h_13 =>
   obind (ldRow h_13 2 (newP h)) fun w2 =>
   some (.ret (.agg w2), h_13))
  (
   callN (call 91 [t0] h_7) fun r23 h_17 =>
   obind (avAgg r23) fun t23 =>
   obind (stRow h_17 2 t23 (newP h)) fun h_20 =>
   obind (ldRow h_20 2 (newP h)) fun w2_23 =>
   some (.ret (.agg w2_23), h_20))) fun k6 =>
 callN (call 90 [t0] h_2) fun r4 h_24 =>
 obind (avBool r4) fun t4 =>
 ifB t4
 (
  obind (nilC t0) fun t7 =>
  obind (fldP 1 t7) fun t8 =>
  obind (ldCell h_24 t8) fun v9 =>
  obind (avInt .i64 v9) fun t9 =>
  obind (nilC t0) fun t11 =>
  obind (fldP 0 t11) fun t12 =>
  obind (ldCell h_24 t12) fun v13 =>
  obind (avStr v13) fun t13 =>
  lett (decide (t9 < (lenS t13))) fun (t15 : Bool) =>
  k6 t15 h_24)
 (
  k6 false h_24)
set_option maxHeartbeats 4000000 in
set_option maxRecDepth 20000 in
theorem wire_Reader_End_ok {call : CallF} (hc : SaysAll Try.prog call) {n : Nat} {t0 : AV} {h : AHeap} {rR : ARes} {hR : AHeap} (hF : wire_Reader_End call n t0 h = some (rR, hR)) : Says Try.prog 78 [t0] h rR hR := by
 unfold wire_Reader_End at hF
 refine sO Try.func78 fun w0 m0 => ?_
 refine wW [(0, t0)] ?_
 refine oG fun n1 => W.r ?_
 refine oN 2 hF fun h_2 hF => ?_
 refine oV [(0, t0), (2, (newP h))] (n1 ?_)
 refine oH fun n4 q4 => ?_
 refine W.s (fun K5 n5 e5 q5 p5 => ?_)
 obtain ⟨k6, e6, hF⟩ := lett_some hF
 have J6 : ∀ (t16 : Bool) (h_7 : AHeap), k6 t16 h_7 = some (rR, hR) → Go w0 m0 (Func.ntmps Try.f78) (K5 .normal) [(0, t0), (2, (newP h)), (16, .bool t16)] [] h_7 := by
  intro t16 h_7 hF
  rw [e6] at hF
  refine n5 ?_
  cases t16 with
  | true =>
   refine oT hF fun hF => ?_
   refine oG fun n8 => W.r ?_
   refine oA 17 t0 ?_
   refine oC0 18 hF fun t18 hF => ?_
   refine oF 19 160 1 hF fun t19 hF => ?_
   refine oLi 20 3 hF fun t20 hF => ?_
   refine oA 21 (.agg ([.int .i64 7, .int .i64 t20] : List AV)) ?_
   refine oW 151 (.agg ([.int .i64 7, .int .i64 t20] : List AV)) hF fun h_13 hF => ?_
   refine oV [(2, (newP h))] (n8 (oY (q4 ?_)))
   obtain ⟨w2, e15, hF⟩ := obind_some hF
   exact lZ hF [.cell 2 151] [.agg w2] (rY e15 res_nil)
  | false =>
   refine oU hF fun hF => ?_
   refine oZ (n4 ?_)
   refine oG fun n16 => W.r ?_
   refine oA 22 t0 ?_
   refine oCa hc 23 hF fun t23 h_17 hF => ?_
   refine oW 151 (.agg t23) hF fun h_20 hF => ?_
   refine oV [(2, (newP h))] (n16 (oY ?_))
   obtain ⟨w2_23, e22, hF⟩ := obind_some hF
   exact lZ hF [.cell 2 151] [.agg w2_23] (rY e22 res_nil)
 refine W.draw (by kernel_rfl) (hc.ok w0) (plan := [0, 1, 2, 3, 4, 5, 6, 7, 8, 9, 10, 11, 12, 13]) (by kernel_rfl) (by kernel_rfl) (by kernel_rfl) ?_
 refine WD.a 0 (some 3) t0 h_2 ?_
 replace hF := callN_some hF; obtain ⟨r4, h_24, e25, hF⟩ := hF
 replace hF := obind_some hF; obtain ⟨t4, c26, hF⟩ := hF
 have c26 := avBool_some c26
 subst c26
 refine WD.call (d := (some 4)) (by kernel_rfl) (by kernel_rfl) (by kernel_rfl) e25 (k := 2) (by kernel_rfl) (fun _ => (by kernel_rfl)) (by decide) ?_
 refine WD.a 0 (some 5) (.bool t4) h_24 ?_
 cases t4 with
 | true =>
  replace hF := ifB_t hF
  refine WD.a 0 (some 6) t0 h_24 ?_
  obtain ⟨t7, e27, hF⟩ := obind_some hF
  refine WD.b 0 (some 7) t7 h_24 (nil_chk (h := h_24) e27) ?_
  obtain ⟨t8, e28, hF⟩ := obind_some hF
  refine WD.b 0 (some 8) t8 h_24 (field_ptr (P := Try.prog) (h := h_24) (s := 160) (f := 1) (by kernel_rfl) e28) ?_
  replace hF := obind_some hF; obtain ⟨v9, e29, hF⟩ := hF
  replace hF := obind_some hF; obtain ⟨t9, c30, hF⟩ := hF
  have c30 := avInt_some c30
  subst c30
  refine WD.b 1 (some 9) (.int .i64 t9) h_24 (load_cell (P := Try.prog) (h := h_24) (t := 3) (by kernel_rfl) e29) ?_
  refine WD.a 0 (some 10) t0 h_24 ?_
  obtain ⟨t11, e31, hF⟩ := obind_some hF
  refine WD.b 0 (some 11) t11 h_24 (nil_chk (h := h_24) e31) ?_
  obtain ⟨t12, e32, hF⟩ := obind_some hF
  refine WD.b 0 (some 12) t12 h_24 (field_ptr (P := Try.prog) (h := h_24) (s := 160) (f := 0) (by kernel_rfl) e32) ?_
  replace hF := obind_some hF; obtain ⟨v13, e33, hF⟩ := hF
  replace hF := obind_some hF; obtain ⟨t13, c34, hF⟩ := hF
  have c34 := avStr_some c34
  subst c34
  refine WD.b 1 (some 13) (strA t13) h_24 (load_cell (P := Try.prog) (h := h_24) (t := 9) (by kernel_rfl) e33) ?_
  refine WD.a 0 (some 14) (.int .i64 (lenS t13)) h_24 ?_
  obtain ⟨t15, e35, hF⟩ := lett_some hF
  refine WD.val (d := (some 15)) (v := .bool t15) (h' := h_24) (by kernel_rfl) (by kernel_rfl) (val_of AV.bool e35 (by kernel_rfl)) (k := 0) (by kernel_rfl) (fun e => absurd e (by decide)) (by decide) ?_
  refine WD.a 0 (some 16) (.bool t15) h_24 ?_
  refine WD.nil ?_
  exact gW _ (J6 _ _ hF)
 | false =>
  replace hF := ifB_f hF
  refine oD 0 (some 6) ?_
  refine oD 0 (some 7) ?_
  refine oD 0 (some 8) ?_
  refine oD 1 (some 9) ?_
  refine oD 0 (some 10) ?_
  refine oD 0 (some 11) ?_
  refine oD 0 (some 12) ?_
  refine oD 1 (some 13) ?_
  refine oD 0 (some 14) ?_
  refine oD 0 (some 15) ?_
  refine WD.a 0 (some 16) (.bool false) h_24 ?_
  refine WD.nil ?_
  exact gW _ (J6 _ _ hF)
noncomputable def wire_Reader_Fault (_ : CallF) (_ : Nat) (t0 : AV) (h : AHeap) : R :=
 lett (newH h 151 [.int .i64 0, .int .i64 0]) fun h_2 =>
 outK (opBin Try.prog h_2 .eql 146 true (some t0) (some AV.nilp)) fun v4 h_6 =>
 obind (avBool v4) fun t4 =>
 ifB t4
 (
  obind (stRow h_6 2 ([.int .i64 1, .int .i64 0] : List AV) (newP h)) fun h_10 =>
  obind (ldRow h_10 2 (newP h)) fun w2 =>
  some (.ret (.agg w2), h_10))
 (
  obind (nilC t0) fun t7 =>
  obind (fldP 2 t7) fun t8 =>
  obind (ldRow h_6 2 t8) fun t9 =>
  obind (stRow h_6 2 t9 (newP h)) fun h_17 =>
  obind (ldRow h_17 2 (newP h)) fun w2_20 =>
  some (.ret (.agg w2_20), h_17))
set_option maxHeartbeats 4000000 in
set_option maxRecDepth 20000 in
theorem wire_Reader_Fault_ok {call : CallF} (_ : SaysAll Try.prog call) {n : Nat} {t0 : AV} {h : AHeap} {rR : ARes} {hR : AHeap} (hF : wire_Reader_Fault call n t0 h = some (rR, hR)) : Says Try.prog 91 [t0] h rR hR := by
 unfold wire_Reader_Fault at hF
 refine sO Try.func91 fun w0 m0 => ?_
 refine wW [(0, t0)] ?_
 refine oG fun n1 => W.r ?_
 refine oN 2 hF fun h_2 hF => ?_
 refine oV [(0, t0), (2, (newP h))] (n1 ?_)
 refine oH fun n4 q4 => ?_
 refine oG fun n5 => W.r ?_
 refine oA 3 t0 ?_
 replace hF := outK_some hF; obtain ⟨v4, h_6, e7, hF⟩ := hF
 replace hF := obind_some hF; obtain ⟨t4, c8, hF⟩ := hF
 have c8 := avBool_some c8
 subst c8
 refine WL.b (some 4) (.bool t4) h_6 e7 ?_
 refine oV [(0, t0), (2, (newP h)), (4, .bool t4)] (n5 ?_)
 cases t4 with
 | true =>
  refine oT hF fun hF => ?_
  refine oG fun n9 => W.r ?_
  refine oA 5 (.agg ([.int .i64 1, .int .i64 0] : List AV)) ?_
  refine oW 151 (.agg ([.int .i64 1, .int .i64 0] : List AV)) hF fun h_10 hF => ?_
  refine oV [(2, (newP h))] (n9 (oY (q4 ?_)))
  obtain ⟨w2, e12, hF⟩ := obind_some hF
  exact lZ hF [.cell 2 151] [.agg w2] (rY e12 res_nil)
 | false =>
  refine oU hF fun hF => ?_
  refine oZ (n4 ?_)
  refine oG fun n13 => W.r ?_
  refine oA 6 t0 ?_
  refine oC0 7 hF fun t7 hF => ?_
  refine oF 8 160 2 hF fun t8 hF => ?_
  refine oR 9 151 hF fun t9 hF => ?_
  refine oW 151 (.agg t9) hF fun h_17 hF => ?_
  refine oV [(2, (newP h))] (n13 (oY ?_))
  obtain ⟨w2_20, e19, hF⟩ := obind_some hF
  exact lZ hF [.cell 2 151] [.agg w2_20] (rY e19 res_nil)
noncomputable def wire_Reader_number_L0b (t0 : AV) (t1 : Int) (k33 : Int → AHeap → R) (self : Int → Int → AHeap → R) (t5_37 : Int) (t28 : Int) (h_38 : AHeap) : R :=
 lett (decide (t28 < t1)) fun (t29 : Bool) =>
 ifB t29
 (
  obind (shlI .u64 t5_37 8) fun t31 =>
  obind (nilC t0) fun t33 =>
  obind (fldP 0 t33) fun t34 =>
  obind (ldCell h_38 t34) fun v35 =>
  obind (avStr v35) fun t35 =>
  obind (nilC t0) fun t37 =>
  obind (fldP 1 t37) fun t38 =>
  obind (ldCell h_38 t38) fun v39 =>
  obind (avInt .i64 v39) fun t39 =>
  obind (idxS t35 t39) fun t40 =>
  lett (IntKind.u64.wrap t40) fun (t41 : Int) =>
  lett (orI .u64 t31 t41) fun (t42 : Int) =>
  obind (nilC t0) fun t44 =>
  obind (fldP 1 t44) fun t45 =>
  obind (ldCell h_38 t45) fun v46 =>
  obind (avInt .i64 v46) fun t46 =>
  lett (IntKind.i64.wrap (t46 + 1)) fun (t47 : Int) =>
  obind (nilC t0) fun t48 =>
  obind (fldP 1 t48) fun t49 =>
  obind (stRow h_38 1 [.int .i64 t47] t49) fun h_64 =>
  lett (IntKind.i64.wrap (t28 + 1)) fun (t50 : Int) =>
  self t42 t50 h_64)
 (
  k33 t5_37 h_38)
noncomputable def wire_Reader_number_L0 (t0 : AV) (t1 : Int) (k33 : Int → AHeap → R) : Nat → Int → Int → AHeap → R := iterR (fun _ _ _ => none) (wire_Reader_number_L0b t0 t1 k33)
theorem wire_Reader_number_L0_s (t0 : AV) (t1 : Int) (k33 : Int → AHeap → R) (m : Nat) : wire_Reader_number_L0 t0 t1 k33 (m + 1) = wire_Reader_number_L0b t0 t1 k33 (wire_Reader_number_L0 t0 t1 k33 m) := rfl
noncomputable def wire_Reader_number (call : CallF) (n : Nat) (t0 : AV) (t1 : Int) (h : AHeap) : R :=
 callN (call 90 [t0] h) fun r7 h_4 =>
 obind (avBool r7) fun t7 =>
 lett (!t7) fun (t8 : Bool) =>
 ifB t8
 (
  some (.ret (.int .u64 0), h_4))
 (
  obind (nilC t0) fun t10 =>
  obind (fldP 0 t10) fun t11 =>
  obind (ldCell h_4 t11) fun v12 =>
  obind (avStr v12) fun t12 =>
  obind (nilC t0) fun t15 =>
  obind (fldP 1 t15) fun t16 =>
  obind (ldCell h_4 t16) fun v17 =>
  obind (avInt .i64 v17) fun t17 =>
  lett (IntKind.i64.wrap ((lenS t12) - t17)) fun (t18 : Int) =>
  lett (decide (t18 < t1)) fun (t20 : Bool) =>
  ifB t20
  (
   obind (nilC t0) fun t23 =>
   obind (fldP 1 t23) fun t24 =>
   obind (ldCell h_4 t24) fun v25 =>
   obind (avInt .i64 v25) fun t25 =>
   callN (call 89 [t0, .int .i64 7, .int .i64 t25] h_4) fun _ h_26 =>
   some (.ret (.int .u64 0), h_26))
  (
   lett (fun (t5 : Int) (h_34 : AHeap) =>
    some (.ret (.int .u64 t5), h_34)) fun k33 =>
   wire_Reader_number_L0 t0 t1 k33 n 0 0 h_4))
set_option maxHeartbeats 4000000 in
set_option maxRecDepth 20000 in
theorem wire_Reader_number_ok {call : CallF} (hc : SaysAll Try.prog call) {n : Nat} {t0 : AV} {t1 : Int} {h : AHeap} {rR : ARes} {hR : AHeap} (hF : wire_Reader_number call n t0 t1 h = some (rR, hR)) : Says Try.prog 87 [t0, .int .i64 t1] h rR hR := by
 unfold wire_Reader_number at hF
 refine sO Try.func87 fun w0 m0 => ?_
 refine wW [(0, t0), (1, .int .i64 t1)] ?_
 refine oG fun n1 => W.r ?_
 refine oA 4 (.int .u64 0) ?_
 refine oV [(0, t0), (1, .int .i64 t1)] (n1 ?_)
 refine oH fun n2 q2 => ?_
 refine oG fun n3 => W.r ?_
 refine oA 6 t0 ?_
 refine oCb hc 7 hF fun t7 h_4 hF => ?_
 refine oB 8 hF fun t8 hF => ?_
 refine oV [(0, t0), (1, .int .i64 t1), (8, .bool t8)] (n3 ?_)
 cases t8 with
 | true =>
  refine oT hF fun hF => ?_
  refine oG fun n8 => W.r ?_
  refine oA 4 (.int .u64 0) ?_
  refine oV [(4, .int .u64 0)] (n8 (oY (q2 ?_)))
  exact lZ hF [.tmp 4] [.int .u64 0] (rT res_nil)
 | false =>
  refine oU hF fun hF => ?_
  refine oZ (n2 ?_)
  refine oH fun n9 q9 => ?_
  refine oG fun n10 => ?_
  refine W.draw (by kernel_rfl) (hc.ok w0) (plan := [0, 1, 2, 3, 4, 5, 6, 7, 8, 9, 10, 11]) (by kernel_rfl) (by kernel_rfl) (by kernel_rfl) ?_
  refine WD.a 0 (some 9) t0 h_4 ?_
  obtain ⟨t10, e11, hF⟩ := obind_some hF
  refine WD.b 0 (some 10) t10 h_4 (nil_chk (h := h_4) e11) ?_
  obtain ⟨t11, e12, hF⟩ := obind_some hF
  refine WD.b 0 (some 11) t11 h_4 (field_ptr (P := Try.prog) (h := h_4) (s := 160) (f := 0) (by kernel_rfl) e12) ?_
  replace hF := obind_some hF; obtain ⟨v12, e13, hF⟩ := hF
  replace hF := obind_some hF; obtain ⟨t12, c14, hF⟩ := hF
  have c14 := avStr_some c14
  subst c14
  refine WD.b 1 (some 12) (strA t12) h_4 (load_cell (P := Try.prog) (h := h_4) (t := 9) (by kernel_rfl) e13) ?_
  refine WD.a 0 (some 13) (.int .i64 (lenS t12)) h_4 ?_
  refine WD.a 0 (some 14) t0 h_4 ?_
  obtain ⟨t15, e15, hF⟩ := obind_some hF
  refine WD.b 0 (some 15) t15 h_4 (nil_chk (h := h_4) e15) ?_
  obtain ⟨t16, e16, hF⟩ := obind_some hF
  refine WD.b 0 (some 16) t16 h_4 (field_ptr (P := Try.prog) (h := h_4) (s := 160) (f := 1) (by kernel_rfl) e16) ?_
  replace hF := obind_some hF; obtain ⟨v17, e17, hF⟩ := hF
  replace hF := obind_some hF; obtain ⟨t17, c18, hF⟩ := hF
  have c18 := avInt_some c18
  subst c18
  refine WD.b 1 (some 17) (.int .i64 t17) h_4 (load_cell (P := Try.prog) (h := h_4) (t := 3) (by kernel_rfl) e17) ?_
  obtain ⟨t18, e19, hF⟩ := lett_some hF
  refine WD.val (d := (some 18)) (v := .int .i64 t18) (h' := h_4) (by kernel_rfl) (by kernel_rfl) (val_of (AV.int .i64) e19 (by kernel_rfl)) (k := 0) (by kernel_rfl) (fun e => absurd e (by decide)) (by decide) ?_
  refine WD.a 0 (some 19) (.int .i64 t1) h_4 ?_
  obtain ⟨t20, e20, hF⟩ := lett_some hF
  refine WD.val (d := (some 20)) (v := .bool t20) (h' := h_4) (by kernel_rfl) (by kernel_rfl) (val_of AV.bool e20 (by kernel_rfl)) (k := 0) (by kernel_rfl) (fun e => absurd e (by decide)) (by decide) ?_
  refine WD.nil ?_
  refine gW [(0, t0), (1, .int .i64 t1), (20, .bool t20)] (n10 ?_)
  cases t20 with
  | true =>
   refine oT hF fun hF => ?_
   refine oG fun n21 => W.r ?_
   refine oA 21 t0 ?_
   refine oA 22 t0 ?_
   refine oC0 23 hF fun t23 hF => ?_
   refine oF 24 160 1 hF fun t24 hF => ?_
   refine oLi 25 3 hF fun t25 hF => ?_
   refine oC hc (some 26) hF fun r26 h_26 hF => ?_
   refine oV [] (n21 ?_)
   refine oG fun n28 => W.r ?_
   refine oA 4 (.int .u64 0) ?_
   refine oV [(4, .int .u64 0)] (n28 (oY (q9 ?_)))
   exact lZ hF [.tmp 4] [.int .u64 0] (rT res_nil)
  | false =>
   refine oU hF fun hF => ?_
   refine oZ (n9 ?_)
   refine oG fun n29 => W.r ?_
   refine oA 5 (.int .u64 0) ?_
   refine oV [(0, t0), (1, .int .i64 t1), (5, .int .u64 0)] (n29 ?_)
   refine W.s (fun K30 n30 e30 q30 p30 => ?_)
   refine oG fun n31 => W.r ?_
   refine oA 27 (.int .i64 t1) ?_
   refine oA 28 (.int .i64 0) ?_
   refine oV [(0, t0), (5, .int .u64 0), (27, .int .i64 t1), (28, .int .i64 0)] (n31 ?_)
   obtain ⟨k33, e33, hF⟩ := lett_some hF
   have J33 : ∀ (t5 : Int) (h_34 : AHeap), k33 t5 h_34 = some (rR, hR) → Go w0 m0 (Func.ntmps Try.f87) (K30 .normal) [(5, .int .u64 t5)] [] h_34 := by
    intro t5 h_34 hF
    rw [e33] at hF
    refine n30 ?_
    refine oG fun n35 => W.r ?_
    refine oA 51 (.int .u64 t5) ?_
    refine oA 4 (.int .u64 t5) ?_
    refine oV [(4, .int .u64 t5)] (n35 (oY ?_))
    exact lZ hF [.tmp 4] [.int .u64 t5] (rT res_nil)
   refine W.blockK (by kernel_rfl) (fun K32 n32 s32 o32 q32 p32 => ?_)
   refine W.loopK (by kernel_rfl) (fun I36 K36 b36 n36 e36 q36 p36 => ?_)
   have L36 : ∀ (m : Nat) (t5_37 : Int) (t28 : Int) (h_38 : AHeap), wire_Reader_number_L0 t0 t1 k33 m t5_37 t28 h_38 = some (rR, hR) → Go w0 m0 (Func.ntmps Try.f87) I36 [(0, t0), (5, .int .u64 t5_37), (27, .int .i64 t1), (28, .int .i64 t28)] [] h_38 := by
    intro m
    induction m with
    | zero => intro t5_37 t28 h_38 hF; cases hF
    | succ m ih36 =>
     intro t5_37 t28 h_38 hF
     rw [wire_Reader_number_L0_s] at hF; unfold wire_Reader_number_L0b at hF
     refine b36 ?_
     refine oG fun n39 => W.r ?_
     refine oB 29 hF fun t29 hF => ?_
     refine oV [(0, t0), (5, .int .u64 t5_37), (27, .int .i64 t1), (28, .int .i64 t28), (29, .bool t29)] (n39 ?_)
     refine W.s (fun K41 n41 e41 q41 p41 => ?_)
     cases t29 with
     | true =>
      refine oT hF fun hF => ?_
      refine oZ (n41 ?_)
      refine oG fun n42 => ?_
      refine W.blockK (by kernel_rfl) (fun K43 n43 s43 o43 q43 p43 => ?_)
      refine oG fun n44 => ?_
      refine W.draw (by kernel_rfl) (hc.ok w0) (plan := [0, 1, 2, 3, 4, 5, 6, 7, 8, 9, 10, 11, 12, 13]) (by kernel_rfl) (by kernel_rfl) (by kernel_rfl) ?_
      refine WD.a 0 (some 30) (.int .u64 t5_37) h_38 ?_
      obtain ⟨t31, e45, hF⟩ := obind_some hF
      refine WD.b 0 (some 31) (.int .u64 t31) h_38 (shl_int (P := Try.prog) (h := h_38) (t := 127) (k' := .u64) (lit := true) e45) ?_
      refine WD.a 0 (some 32) t0 h_38 ?_
      obtain ⟨t33, e46, hF⟩ := obind_some hF
      refine WD.b 0 (some 33) t33 h_38 (nil_chk (h := h_38) e46) ?_
      obtain ⟨t34, e47, hF⟩ := obind_some hF
      refine WD.b 0 (some 34) t34 h_38 (field_ptr (P := Try.prog) (h := h_38) (s := 160) (f := 0) (by kernel_rfl) e47) ?_
      replace hF := obind_some hF; obtain ⟨v35, e48, hF⟩ := hF
      replace hF := obind_some hF; obtain ⟨t35, c49, hF⟩ := hF
      have c49 := avStr_some c49
      subst c49
      refine WD.b 1 (some 35) (strA t35) h_38 (load_cell (P := Try.prog) (h := h_38) (t := 9) (by kernel_rfl) e48) ?_
      refine WD.a 0 (some 36) t0 h_38 ?_
      obtain ⟨t37, e50, hF⟩ := obind_some hF
      refine WD.b 0 (some 37) t37 h_38 (nil_chk (h := h_38) e50) ?_
      obtain ⟨t38, e51, hF⟩ := obind_some hF
      refine WD.b 0 (some 38) t38 h_38 (field_ptr (P := Try.prog) (h := h_38) (s := 160) (f := 1) (by kernel_rfl) e51) ?_
      replace hF := obind_some hF; obtain ⟨v39, e52, hF⟩ := hF
      replace hF := obind_some hF; obtain ⟨t39, c53, hF⟩ := hF
      have c53 := avInt_some c53
      subst c53
      refine WD.b 1 (some 39) (.int .i64 t39) h_38 (load_cell (P := Try.prog) (h := h_38) (t := 3) (by kernel_rfl) e52) ?_
      obtain ⟨t40, e54, hF⟩ := obind_some hF
      refine WD.b 0 (some 40) (.int .u8 t40) h_38 (index_str (P := Try.prog) (h := h_38) (t := 9) (k := .i64) (by kernel_rfl) e54) ?_
      obtain ⟨t41, e55, hF⟩ := lett_some hF
      refine WD.val (d := (some 41)) (v := .int .u64 t41) (h' := h_38) (by kernel_rfl) (by kernel_rfl) (val_of (AV.int .u64) e55 (by kernel_rfl)) (k := 0) (by kernel_rfl) (fun e => absurd e (by decide)) (by decide) ?_
      obtain ⟨t42, e56, hF⟩ := lett_some hF
      refine WD.val (d := (some 42)) (v := .int .u64 t42) (h' := h_38) (by kernel_rfl) (by kernel_rfl) (val_of (AV.int .u64) e56 (by kernel_rfl)) (k := 0) (by kernel_rfl) (fun e => absurd e (by decide)) (by decide) ?_
      refine WD.val (d := (some 5)) (v := .int .u64 t42) (h' := h_38) (by kernel_rfl) (by kernel_rfl) (by kernel_rfl) (k := 2) (by kernel_rfl) (fun _ => (by kernel_rfl)) (by decide) ?_
      refine WD.nil ?_
      refine gW [(0, t0), (5, .int .u64 t42), (27, .int .i64 t1), (28, .int .i64 t28)] (n44 (W.r ?_))
      refine oA 43 t0 ?_
      refine oC0 44 hF fun t44 hF => ?_
      refine oF 45 160 1 hF fun t45 hF => ?_
      refine oLi 46 3 hF fun t46 hF => ?_
      refine oI 47 .i64 hF fun t47 hF => ?_
      refine oC0 48 hF fun t48 hF => ?_
      refine oF 49 160 1 hF fun t49 hF => ?_
      refine oW 3 (.int .i64 t47) hF fun h_64 hF => ?_
      refine oV [(0, t0), (5, .int .u64 t42), (27, .int .i64 t1), (28, .int .i64 t28)] (n43 (n42 (W.r ?_)))
      refine oI 50 .i64 hF fun t50 hF => ?_
      refine oA 28 (.int .i64 t50) ?_
      refine oV [(0, t0), (5, .int .u64 t42), (27, .int .i64 t1), (28, .int .i64 t50)] (n36 ?_)
      exact gW _ (ih36 _ _ _ hF)
     | false =>
      refine oU hF fun hF => ?_
      refine W.exit (by kernel_rfl) ?_
      refine e41 (e36 ?_)
      refine s32 (by kernel_rfl) ?_
      exact gW _ (J33 _ _ hF)
   exact gW _ (L36 _ _ _ _ hF)
noncomputable def wire_Reader_whole (_ : CallF) (_ : Nat) (t0 : AV) (h : AHeap) : R :=
 outK (opBin Try.prog h .neq 146 true (some t0) (some AV.nilp)) fun v4 h_3 =>
 obind (avBool v4) fun t4 =>
 lett (fun (t12 : Bool) (h_6 : AHeap) =>
  some (.ret (.bool t12), h_6)) fun j12 =>
 ifB t4
 (
  obind (nilC t0) fun t7 =>
  obind (fldP 2 t7) fun t8 =>
  obind (fldP 0 t8) fun t9 =>
  obind (ldCell h_3 t9) fun v10 =>
  obind (avInt .i64 v10) fun t10 =>
  lett ((t10 : Int) == 0) fun (t11 : Bool) =>
  j12 t11 h_3)
 (
  j12 false h_3)
set_option maxHeartbeats 4000000 in
set_option maxRecDepth 20000 in
theorem wire_Reader_whole_ok {call : CallF} (_ : SaysAll Try.prog call) {n : Nat} {t0 : AV} {h : AHeap} {rR : ARes} {hR : AHeap} (hF : wire_Reader_whole call n t0 h = some (rR, hR)) : Says Try.prog 90 [t0] h rR hR := by
 unfold wire_Reader_whole at hF
 refine sO Try.func90 fun w0 m0 => ?_
 refine wW [(0, t0)] ?_
 refine oG fun n1 => W.r ?_
 refine oA 2 (.bool false) ?_
 refine oV [(0, t0)] (n1 ?_)
 refine W.s (fun K2 n2 e2 q2 p2 => ?_)
 refine W.r ?_
 refine oA 3 t0 ?_
 replace hF := outK_some hF; obtain ⟨v4, h_3, e4, hF⟩ := hF
 replace hF := obind_some hF; obtain ⟨t4, c5, hF⟩ := hF
 have c5 := avBool_some c5
 subst c5
 refine WL.b (some 4) (.bool t4) h_3 e4 ?_
 refine oA 5 (.bool t4) ?_
 obtain ⟨j12, e7, hF⟩ := lett_some hF
 have J8 : ∀ (t12 : Bool) (h_6 : AHeap), j12 t12 h_6 = some (rR, hR) → WL Try.prog w0 m0 (Func.ntmps Try.f90) (Code.ops (Code.p1 (Code.p2 (codeOf Try.f90)))) 10 K2 [(12, .bool t12)] [] h_6 := by
  intro t12 h_6 hF
  rw [e7] at hF
  refine oA 2 (.bool t12) ?_
  refine oV [(2, .bool t12)] (n2 (oY ?_))
  exact lZ hF [.tmp 2] [.bool t12] (rT res_nil)
 cases t4 with
 | true =>
  replace hF := ifB_t hF
  refine oA 6 t0 ?_
  refine oC0 7 hF fun t7 hF => ?_
  refine oF 8 160 2 hF fun t8 hF => ?_
  refine oF 9 151 0 hF fun t9 hF => ?_
  refine oLi 10 26 hF fun t10 hF => ?_
  refine oB 11 hF fun t11 hF => ?_
  refine oA 12 (.bool t11) ?_
  exact lW _ (J8 _ _ hF)
 | false =>
  replace hF := ifB_f hF
  refine WL.o (some 6) ?_
  refine WL.o (some 7) ?_
  refine WL.o (some 8) ?_
  refine WL.o (some 9) ?_
  refine WL.o (some 10) ?_
  refine WL.o (some 11) ?_
  refine oA 12 (.bool false) ?_
  exact lW _ (J8 _ _ hF)
noncomputable def wire_Reader_fail (_ : CallF) (_ : Nat) (t0 : AV) (t1 : Int) (t2 : Int) (h : AHeap) : R :=
 obind (nilC t0) fun t10 =>
 obind (fldP 2 t10) fun t11 =>
 obind (stRow h 2 ([.int .i64 t1, .int .i64 t2] : List AV) t11) fun h_3 =>
 some (.ret (.tup []), h_3)
set_option maxHeartbeats 4000000 in
set_option maxRecDepth 20000 in
theorem wire_Reader_fail_ok {call : CallF} (_ : SaysAll Try.prog call) {n : Nat} {t0 : AV} {t1 : Int} {t2 : Int} {h : AHeap} {rR : ARes} {hR : AHeap} (hF : wire_Reader_fail call n t0 t1 t2 h = some (rR, hR)) : Says Try.prog 89 [t0, .int .i64 t1, .int .i64 t2] h rR hR := by
 unfold wire_Reader_fail at hF
 refine sO Try.func89 fun w0 m0 => ?_
 refine wW [(0, t0), (1, .int .i64 t1), (2, .int .i64 t2)] ?_
 refine W.r ?_
 refine oA 6 t0 ?_
 refine oA 7 (.int .i64 t1) ?_
 refine oA 8 (.int .i64 t2) ?_
 refine oA 9 (.agg ([.int .i64 t1, .int .i64 t2] : List AV)) ?_
 refine oC0 10 hF fun t10 hF => ?_
 refine oF 11 160 2 hF fun t11 hF => ?_
 refine oW 151 (.agg ([.int .i64 t1, .int .i64 t2] : List AV)) hF fun h_3 hF => ?_
 refine oV [] ?_
 exact lY hF [] [] res_nil
noncomputable def wire_Reader_head (call : CallF) (_ : Nat) (t0 : AV) (t1 : Int) (h : AHeap) : R :=
 callN (call 90 [t0] h) fun r8 h_4 =>
 obind (avBool r8) fun t8 =>
 lett (!t8) fun (t9 : Bool) =>
 ifB t9
 (
  some (.ret (.tup [.int .u32 0, .int .i64 0, .bool false]), h_4))
 (
  obind (nilC t0) fun t11 =>
  obind (fldP 1 t11) fun t12 =>
  obind (ldCell h_4 t12) fun v13 =>
  obind (avInt .i64 v13) fun t13 =>
  callN (call 85 [t0] h_4) fun r15 h_15 =>
  obind (avInt .u32 r15) fun t15 =>
  callN (call 90 [t0] h_15) fun r17 h_20 =>
  obind (avBool r17) fun t17 =>
  lett (fun (t23 : Bool) (h_23 : AHeap) =>
   lett (fun  (h_27 : AHeap) =>
    callN (call 90 [t0] h_27) fun r30 h_29 =>
    obind (avBool r30) fun t30 =>
    some (.ret (.tup [.int .u32 t15, .int .i64 t13, .bool t30]), h_29)) fun k26 =>
   ifB t23
   (
    callN (call 89 [t0, .int .i64 3, .int .i64 t13] h_23) fun _ h_32 =>
    k26 h_32)
   (
    k26 h_23)) fun j23 =>
  ifB t17
  (
   lett (IntKind.i64.wrap t15) fun (t20 : Int) =>
   lett (decide (t20 > t1)) fun (t22 : Bool) =>
   j23 t22 h_20)
  (
   j23 false h_20))
set_option maxHeartbeats 4000000 in
set_option maxRecDepth 20000 in
theorem wire_Reader_head_ok {call : CallF} (hc : SaysAll Try.prog call) {n : Nat} {t0 : AV} {t1 : Int} {h : AHeap} {rR : ARes} {hR : AHeap} (hF : wire_Reader_head call n t0 t1 h = some (rR, hR)) : Says Try.prog 88 [t0, .int .i64 t1] h rR hR := by
 unfold wire_Reader_head at hF
 refine sO Try.func88 fun w0 m0 => ?_
 refine wW [(0, t0), (1, .int .i64 t1)] ?_
 refine oG fun n1 => W.r ?_
 refine oA 4 (.int .u32 0) ?_
 refine oA 5 (.int .i64 0) ?_
 refine oA 6 (.bool false) ?_
 refine oV [(0, t0), (1, .int .i64 t1)] (n1 ?_)
 refine oH fun n2 q2 => ?_
 refine oG fun n3 => W.r ?_
 refine oA 7 t0 ?_
 refine oCb hc 8 hF fun t8 h_4 hF => ?_
 refine oB 9 hF fun t9 hF => ?_
 refine oV [(0, t0), (1, .int .i64 t1), (9, .bool t9)] (n3 ?_)
 cases t9 with
 | true =>
  refine oT hF fun hF => ?_
  refine oG fun n8 => W.r ?_
  refine oA 4 (.int .u32 0) ?_
  refine oA 5 (.int .i64 0) ?_
  refine oA 6 (.bool false) ?_
  refine oV [(4, .int .u32 0), (5, .int .i64 0), (6, .bool false)] (n8 (oY (q2 ?_)))
  exact lZ hF [.tmp 4, .tmp 5, .tmp 6] [.int .u32 0, .int .i64 0, .bool false] (rT (rT (rT res_nil)))
 | false =>
  refine oU hF fun hF => ?_
  refine oZ (n2 ?_)
  refine oG fun n9 => W.r ?_
  refine oA 10 t0 ?_
  refine oC0 11 hF fun t11 hF => ?_
  refine oF 12 160 1 hF fun t12 hF => ?_
  refine oLi 13 3 hF fun t13 hF => ?_
  refine oA 5 (.int .i64 t13) ?_
  refine oV [(0, t0), (1, .int .i64 t1), (5, .int .i64 t13)] (n9 ?_)
  refine oG fun n14 => W.r ?_
  refine oA 14 t0 ?_
  refine oCi hc 15 hF fun t15 h_15 hF => ?_
  refine oA 4 (.int .u32 t15) ?_
  refine oV [(0, t0), (1, .int .i64 t1), (4, .int .u32 t15), (5, .int .i64 t13)] (n14 ?_)
  refine W.s (fun K18 n18 e18 q18 p18 => ?_)
  refine W.s (fun K19 n19 e19 q19 p19 => ?_)
  refine W.r ?_
  refine oA 16 t0 ?_
  refine oCb hc 17 hF fun t17 h_20 hF => ?_
  refine oA 18 (.bool t17) ?_
  obtain ⟨j23, e24, hF⟩ := lett_some hF
  have J25 : ∀ (t23 : Bool) (h_23 : AHeap), j23 t23 h_23 = some (rR, hR) → WL Try.prog w0 m0 (Func.ntmps Try.f88) (Code.ops (Code.p1 (Code.p1 (Code.p2 (Code.p2 (Code.p2 (Code.p2 (codeOf Try.f88)))))))) 8 K19 [(0, t0), (4, .int .u32 t15), (5, .int .i64 t13), (23, .bool t23)] [] h_23 := by
   intro t23 h_23 hF
   rw [e24] at hF
   refine oV [(0, t0), (4, .int .u32 t15), (5, .int .i64 t13), (23, .bool t23)] (n19 ?_)
   obtain ⟨k26, e26, hF⟩ := lett_some hF
   have J26 : ∀  (h_27 : AHeap), k26 h_27 = some (rR, hR) → Go w0 m0 (Func.ntmps Try.f88) (K18 .normal) [(0, t0), (4, .int .u32 t15), (5, .int .i64 t13)] [] h_27 := by
    intro  h_27 hF
    rw [e26] at hF
    refine n18 ?_
    refine oG fun n28 => W.r ?_
    refine oA 27 (.int .u32 t15) ?_
    refine oA 28 (.int .i64 t13) ?_
    refine oA 29 t0 ?_
    refine oCb hc 30 hF fun t30 h_29 hF => ?_
    refine oA 4 (.int .u32 t15) ?_
    refine oA 5 (.int .i64 t13) ?_
    refine oA 6 (.bool t30) ?_
    refine oV [(4, .int .u32 t15), (5, .int .i64 t13), (6, .bool t30)] (n28 (oY ?_))
    exact lZ hF [.tmp 4, .tmp 5, .tmp 6] [.int .u32 t15, .int .i64 t13, .bool t30] (rT (rT (rT res_nil)))
   cases t23 with
   | true =>
    refine oT hF fun hF => ?_
    refine W.r ?_
    refine oA 24 t0 ?_
    refine oA 25 (.int .i64 t13) ?_
    refine oC hc (some 26) hF fun r26 h_32 hF => ?_
    refine oV [(0, t0), (4, .int .u32 t15), (5, .int .i64 t13)] ?_
    exact gW _ (J26 _ hF)
   | false =>
    refine oU hF fun hF => ?_
    refine oZ ?_
    exact gW _ (J26 _ hF)
  cases t17 with
  | true =>
   replace hF := ifB_t hF
   refine oA 19 (.int .u32 t15) ?_
   refine oI 20 .i64 hF fun t20 hF => ?_
   refine oA 21 (.int .i64 t1) ?_
   refine oB 22 hF fun t22 hF => ?_
   refine oA 23 (.bool t22) ?_
   exact lW _ (J25 _ _ hF)
  | false =>
   replace hF := ifB_f hF
   refine WL.o (some 19) ?_
   refine WL.o (some 20) ?_
   refine WL.o (some 21) ?_
   refine WL.o (some 22) ?_
   refine oA 23 (.bool false) ?_
   exact lW _ (J25 _ _ hF)
noncomputable def wire_Reader_Text (call : CallF) (_ : Nat) (t0 : AV) (t1 : Int) (h : AHeap) : R :=
 callN (call 88 [t0, .int .i64 t1] h) fun r12 h_3 =>
 obind (extT 0 r12) fun v13 =>
 obind (avInt .u32 v13) fun t13 =>
 obind (extT 1 r12) fun v14 =>
 obind (avInt .i64 v14) fun t14 =>
 obind (extT 2 r12) fun v15 =>
 obind (avBool v15) fun t15 =>
 lett (!t15) fun (t17 : Bool) =>
 ifB t17
 (
  some (.ret (strA ([] : Bytes)), h_3))
 (
  lett (IntKind.i64.wrap t13) fun (t19 : Int) =>
  obind (nilC t0) fun t21 =>
  obind (fldP 0 t21) fun t22 =>
  obind (ldCell h_3 t22) fun v23 =>
  obind (avStr v23) fun t23 =>
  obind (nilC t0) fun t26 =>
  obind (fldP 1 t26) fun t27 =>
  obind (ldCell h_3 t27) fun v28 =>
  obind (avInt .i64 v28) fun t28 =>
  lett (IntKind.i64.wrap ((lenS t23) - t28)) fun (t29 : Int) =>
  lett (decide (t19 > t29)) fun (t30 : Bool) =>
  ifB t30
  (
   callN (call 89 [t0, .int .i64 7, .int .i64 t14] h_3) fun _ h_29 =>
   some (.ret (strA ([] : Bytes)), h_29))
  (
   obind (nilC t0) fun t35 =>
   obind (fldP 1 t35) fun t36 =>
   obind (ldCell h_3 t36) fun v37 =>
   obind (avInt .i64 v37) fun t37 =>
   obind (nilC t0) fun t39 =>
   obind (fldP 1 t39) fun t40 =>
   obind (ldCell h_3 t40) fun v41 =>
   obind (avInt .i64 v41) fun t41 =>
   lett (IntKind.i64.wrap t13) fun (t43 : Int) =>
   lett (IntKind.i64.wrap (t41 + t43)) fun (t44 : Int) =>
   obind (nilC t0) fun t45 =>
   obind (fldP 1 t45) fun t46 =>
   obind (stRow h_3 1 [.int .i64 t44] t46) fun h_46 =>
   obind (nilC t0) fun t48 =>
   obind (fldP 0 t48) fun t49 =>
   obind (ldCell h_46 t49) fun v50 =>
   obind (avStr v50) fun t50 =>
   obind (nilC t0) fun t53 =>
   obind (fldP 1 t53) fun t54 =>
   obind (ldCell h_46 t54) fun v55 =>
   obind (avInt .i64 v55) fun t55 =>
   obind (sliceS t50 t37 t55) fun t56 =>
   some (.ret (strA t56), h_46)))
set_option maxHeartbeats 4000000 in
set_option maxRecDepth 20000 in
theorem wire_Reader_Text_ok {call : CallF} (hc : SaysAll Try.prog call) {n : Nat} {t0 : AV} {t1 : Int} {h : AHeap} {rR : ARes} {hR : AHeap} (hF : wire_Reader_Text call n t0 t1 h = some (rR, hR)) : Says Try.prog 77 [t0, .int .i64 t1] h rR hR := by
 unfold wire_Reader_Text at hF
 refine sO Try.func77 fun w0 m0 => ?_
 refine wW [(0, t0), (1, .int .i64 t1)] ?_
 refine oG fun n1 => W.r ?_
 refine oA 4 (strA ([] : Bytes)) ?_
 refine oV [(0, t0), (1, .int .i64 t1)] (n1 ?_)
 refine oG fun n2 => W.r ?_
 refine oA 10 t0 ?_
 refine oA 11 (.int .i64 t1) ?_
 refine oC hc (some 12) hF fun r12 h_3 hF => ?_
 refine oA 9 r12 ?_
 refine oEi 13 hF fun t13 hF => ?_
 refine oEi 14 hF fun t14 hF => ?_
 refine oEb 15 hF fun t15 hF => ?_
 refine oA 5 (.int .u32 t13) ?_
 refine oA 6 (.int .i64 t14) ?_
 refine oA 7 (.bool t15) ?_
 refine oV [(0, t0), (5, .int .u32 t13), (6, .int .i64 t14), (7, .bool t15)] (n2 ?_)
 refine oH fun n11 q11 => ?_
 refine oG fun n12 => W.r ?_
 refine oA 16 (.bool t15) ?_
 refine oB 17 hF fun t17 hF => ?_
 refine oV [(0, t0), (5, .int .u32 t13), (6, .int .i64 t14), (17, .bool t17)] (n12 ?_)
 cases t17 with
 | true =>
  refine oT hF fun hF => ?_
  refine oG fun n14 => W.r ?_
  refine oA 4 (strA ([] : Bytes)) ?_
  refine oV [(4, strA ([] : Bytes))] (n14 (oY (q11 ?_)))
  exact lZ hF [.tmp 4] [strA ([] : Bytes)] (rT res_nil)
 | false =>
  refine oU hF fun hF => ?_
  refine oZ (n11 ?_)
  refine oH fun n15 q15 => ?_
  refine oG fun n16 => ?_
  refine W.draw (by kernel_rfl) (hc.ok w0) (plan := [0, 1, 2, 3, 4, 5, 6, 7, 8, 9, 10, 11, 12]) (by kernel_rfl) (by kernel_rfl) (by kernel_rfl) ?_
  refine WD.a 0 (some 18) (.int .u32 t13) h_3 ?_
  obtain ⟨t19, e17, hF⟩ := lett_some hF
  refine WD.val (d := (some 19)) (v := .int .i64 t19) (h' := h_3) (by kernel_rfl) (by kernel_rfl) (val_of (AV.int .i64) e17 (by kernel_rfl)) (k := 0) (by kernel_rfl) (fun e => absurd e (by decide)) (by decide) ?_
  refine WD.a 0 (some 20) t0 h_3 ?_
  obtain ⟨t21, e18, hF⟩ := obind_some hF
  refine WD.b 0 (some 21) t21 h_3 (nil_chk (h := h_3) e18) ?_
  obtain ⟨t22, e19, hF⟩ := obind_some hF
  refine WD.b 0 (some 22) t22 h_3 (field_ptr (P := Try.prog) (h := h_3) (s := 160) (f := 0) (by kernel_rfl) e19) ?_
  replace hF := obind_some hF; obtain ⟨v23, e20, hF⟩ := hF
  replace hF := obind_some hF; obtain ⟨t23, c21, hF⟩ := hF
  have c21 := avStr_some c21
  subst c21
  refine WD.b 1 (some 23) (strA t23) h_3 (load_cell (P := Try.prog) (h := h_3) (t := 9) (by kernel_rfl) e20) ?_
  refine WD.a 0 (some 24) (.int .i64 (lenS t23)) h_3 ?_
  refine WD.a 0 (some 25) t0 h_3 ?_
  obtain ⟨t26, e22, hF⟩ := obind_some hF
  refine WD.b 0 (some 26) t26 h_3 (nil_chk (h := h_3) e22) ?_
  obtain ⟨t27, e23, hF⟩ := obind_some hF
  refine WD.b 0 (some 27) t27 h_3 (field_ptr (P := Try.prog) (h := h_3) (s := 160) (f := 1) (by kernel_rfl) e23) ?_
  replace hF := obind_some hF; obtain ⟨v28, e24, hF⟩ := hF
  replace hF := obind_some hF; obtain ⟨t28, c25, hF⟩ := hF
  have c25 := avInt_some c25
  subst c25
  refine WD.b 1 (some 28) (.int .i64 t28) h_3 (load_cell (P := Try.prog) (h := h_3) (t := 3) (by kernel_rfl) e24) ?_
  obtain ⟨t29, e26, hF⟩ := lett_some hF
  refine WD.val (d := (some 29)) (v := .int .i64 t29) (h' := h_3) (by kernel_rfl) (by kernel_rfl) (val_of (AV.int .i64) e26 (by kernel_rfl)) (k := 0) (by kernel_rfl) (fun e => absurd e (by decide)) (by decide) ?_
  obtain ⟨t30, e27, hF⟩ := lett_some hF
  refine WD.val (d := (some 30)) (v := .bool t30) (h' := h_3) (by kernel_rfl) (by kernel_rfl) (val_of AV.bool e27 (by kernel_rfl)) (k := 0) (by kernel_rfl) (fun e => absurd e (by decide)) (by decide) ?_
  refine WD.nil ?_
  refine gW [(0, t0), (5, .int .u32 t13), (6, .int .i64 t14), (30, .bool t30)] (n16 ?_)
  cases t30 with
  | true =>
   refine oT hF fun hF => ?_
   refine oG fun n28 => W.r ?_
   refine oA 31 t0 ?_
   refine oA 32 (.int .i64 t14) ?_
   refine oC hc (some 33) hF fun r33 h_29 hF => ?_
   refine oV [] (n28 ?_)
   refine oG fun n31 => W.r ?_
   refine oA 4 (strA ([] : Bytes)) ?_
   refine oV [(4, strA ([] : Bytes))] (n31 (oY (q15 ?_)))
   exact lZ hF [.tmp 4] [strA ([] : Bytes)] (rT res_nil)
  | false =>
   refine oU hF fun hF => ?_
   refine oZ (n15 ?_)
   refine oG fun n32 => W.r ?_
   refine oA 34 t0 ?_
   refine oC0 35 hF fun t35 hF => ?_
   refine oF 36 160 1 hF fun t36 hF => ?_
   refine oLi 37 3 hF fun t37 hF => ?_
   refine oA 8 (.int .i64 t37) ?_
   refine oV [(0, t0), (5, .int .u32 t13), (8, .int .i64 t37)] (n32 ?_)
   refine oG fun n37 => W.r ?_
   refine oA 38 t0 ?_
   refine oC0 39 hF fun t39 hF => ?_
   refine oF 40 160 1 hF fun t40 hF => ?_
   refine oLi 41 3 hF fun t41 hF => ?_
   refine oA 42 (.int .u32 t13) ?_
   refine oI 43 .i64 hF fun t43 hF => ?_
   refine oI 44 .i64 hF fun t44 hF => ?_
   refine oC0 45 hF fun t45 hF => ?_
   refine oF 46 160 1 hF fun t46 hF => ?_
   refine oW 3 (.int .i64 t44) hF fun h_46 hF => ?_
   refine oV [(0, t0), (8, .int .i64 t37)] (n37 ?_)
   refine oG fun n48 => ?_
   refine W.draw (by kernel_rfl) (hc.ok w0) (plan := [0, 1, 2, 3, 4, 5, 6, 7, 8, 9, 10]) (by kernel_rfl) (by kernel_rfl) (by kernel_rfl) ?_
   refine WD.a 0 (some 47) t0 h_46 ?_
   obtain ⟨t48, e49, hF⟩ := obind_some hF
   refine WD.b 0 (some 48) t48 h_46 (nil_chk (h := h_46) e49) ?_
   obtain ⟨t49, e50, hF⟩ := obind_some hF
   refine WD.b 0 (some 49) t49 h_46 (field_ptr (P := Try.prog) (h := h_46) (s := 160) (f := 0) (by kernel_rfl) e50) ?_
   replace hF := obind_some hF; obtain ⟨v50, e51, hF⟩ := hF
   replace hF := obind_some hF; obtain ⟨t50, c52, hF⟩ := hF
   have c52 := avStr_some c52
   subst c52
   refine WD.b 1 (some 50) (strA t50) h_46 (load_cell (P := Try.prog) (h := h_46) (t := 9) (by kernel_rfl) e51) ?_
   refine WD.a 0 (some 51) (.int .i64 t37) h_46 ?_
   refine WD.a 0 (some 52) t0 h_46 ?_
   obtain ⟨t53, e53, hF⟩ := obind_some hF
   refine WD.b 0 (some 53) t53 h_46 (nil_chk (h := h_46) e53) ?_
   obtain ⟨t54, e54, hF⟩ := obind_some hF
   refine WD.b 0 (some 54) t54 h_46 (field_ptr (P := Try.prog) (h := h_46) (s := 160) (f := 1) (by kernel_rfl) e54) ?_
   replace hF := obind_some hF; obtain ⟨v55, e55, hF⟩ := hF
   replace hF := obind_some hF; obtain ⟨t55, c56, hF⟩ := hF
   have c56 := avInt_some c56
   subst c56
   refine WD.b 1 (some 55) (.int .i64 t55) h_46 (load_cell (P := Try.prog) (h := h_46) (t := 3) (by kernel_rfl) e55) ?_
   obtain ⟨t56, e57, hF⟩ := obind_some hF
   refine WD.b 0 (some 56) (strA t56) h_46 (slice_str (P := Try.prog) (h := h_46) (t := 9) (A := (some (.int .i64 t37))) (B := (some (.int .i64 t55))) (by kernel_rfl) (.inl ⟨_, rfl⟩) (.inl ⟨_, rfl⟩) e57) ?_
   refine WD.a 0 (some 4) (strA t56) h_46 ?_
   refine WD.nil ?_
   refine gW [(4, strA t56)] (n48 (oY ?_))
   exact lZ hF [.tmp 4] [strA t56] (rT res_nil)
noncomputable def journal_Check_L0b (t6 : List AV) (k11 : AHeap → R) (self : Int → AHeap → R) (t7 : Int) (h_22 : AHeap) : R :=
 lett (decide (t7 < 4)) fun (t8 : Bool) =>
 ifB t8
 (
  outK (opIndex Try.prog h_22 100 (some (.agg t6)) (some (.int .i64 t7))) fun v9 h_29 =>
  obind (avAgg v9) fun t9 =>
  lett (newH h_29 99 [.int .i64 0, .int .i64 0]) fun h_32 =>
  obind (stRow h_32 2 t9 (newP h_29)) fun h_34 =>
  obind (ldCell h_34 (AV.ptr (AHeap.next h_29) 0)) fun v11 =>
  obind (avInt .i64 v11) fun t11 =>
  lett (decide (t11 < 1)) fun (t12 : Bool) =>
  lett (fun (t19 : Bool) (h_40 : AHeap) =>
   ifB t19
   (
    some (.ret (.int .i64 2), h_40))
   (
    lett (IntKind.i64.wrap (t7 + 1)) fun (t20 : Int) =>
    self t20 h_40)) fun j19 =>
  ifB t12
  (
   j19 true h_34)
  (
   obind (ldCell h_34 (AV.ptr (AHeap.next h_29) 0)) fun v15 =>
   obind (avInt .i64 v15) fun t15 =>
   obind (ldCell h_34 (AV.ptr (AHeap.next h_29) 1)) fun v17 =>
   obind (avInt .i64 v17) fun t17 =>
   lett (decide (t15 > t17)) fun (t18 : Bool) =>
   j19 t18 h_34))
 (
  k11 h_22)
noncomputable def journal_Check_L0 (t6 : List AV) (k11 : AHeap → R) : Nat → Int → AHeap → R := iterR (fun _ _ => none) (journal_Check_L0b t6 k11)
theorem journal_Check_L0_s (t6 : List AV) (k11 : AHeap → R) (m : Nat) : journal_Check_L0 t6 k11 (m + 1) = journal_Check_L0b t6 k11 (journal_Check_L0 t6 k11 m) := rfl
noncomputable def journal_Check (call : CallF) (n : Nat) (t0 : List AV) (h : AHeap) : R :=
 outK (opBox h 35 (some (.agg t0))) fun v1 h_2 =>
 obind (ldRow h_2 5 v1) fun t5 =>
 callN (call 40 [.agg t5] h_2) fun r6 h_7 =>
 obind (avAgg r6) fun t6 =>
 lett (fun  (h_12 : AHeap) =>
  obind (fldP 4 v1) fun t21 =>
  obind (ldCell h_12 t21) fun v22 =>
  obind (avStr v22) fun t22 =>
  lett (decide ((lenS t22) > 64)) fun (t24 : Bool) =>
  ifB t24
  (
   some (.ret (.int .i64 3), h_12))
  (
   some (.ret (.int .i64 0), h_12))) fun k11 =>
 journal_Check_L0 t6 k11 n 0 h_7
set_option maxHeartbeats 4000000 in
set_option maxRecDepth 20000 in
theorem journal_Check_ok {call : CallF} (hc : SaysAll Try.prog call) {n : Nat} {t0 : List AV} {h : AHeap} {rR : ARes} {hR : AHeap} (hF : journal_Check call n t0 h = some (rR, hR)) : Says Try.prog 16 [.agg t0] h rR hR := by
 unfold journal_Check at hF
 refine sO Try.func16 fun w0 m0 => ?_
 refine wW [(0, .agg t0)] ?_
 refine oG fun n1 => W.r ?_
 refine oK 1 hF fun v1 h_2 hF => ?_
 refine oA 2 (.int .i64 0) ?_
 refine oV [(1, v1)] (n1 ?_)
 refine W.s (fun K4 n4 e4 q4 p4 => ?_)
 refine oG fun n5 => W.r ?_
 refine oR 5 35 hF fun t5 hF => ?_
 refine oCa hc 6 hF fun t6 h_7 hF => ?_
 refine oA 7 (.int .i64 0) ?_
 refine oV [(1, v1), (6, .agg t6), (7, .int .i64 0)] (n5 ?_)
 obtain ⟨k11, e11, hF⟩ := lett_some hF
 have J11 : ∀  (h_12 : AHeap), k11 h_12 = some (rR, hR) → Go w0 m0 (Func.ntmps Try.f16) (K4 .normal) [(1, v1)] [] h_12 := by
  intro  h_12 hF
  rw [e11] at hF
  refine n4 ?_
  refine oH fun n13 q13 => ?_
  refine oG fun n14 => W.r ?_
  refine oF 21 35 3 hF fun t21 hF => ?_
  refine oLs 22 9 hF fun t22 hF => ?_
  refine oA 23 (.int .i64 (lenS t22)) ?_
  refine oB 24 hF fun t24 hF => ?_
  refine oV [(24, .bool t24)] (n14 ?_)
  cases t24 with
  | true =>
   refine oT hF fun hF => ?_
   refine oG fun n19 => W.r ?_
   refine oA 2 (.int .i64 3) ?_
   refine oV [(2, .int .i64 3)] (n19 (oY (q13 ?_)))
   exact lZ hF [.tmp 2] [.int .i64 3] (rT res_nil)
  | false =>
   refine oU hF fun hF => ?_
   refine oZ (n13 ?_)
   refine oG fun n20 => W.r ?_
   refine oA 2 (.int .i64 0) ?_
   refine oV [(2, .int .i64 0)] (n20 (oY ?_))
   exact lZ hF [.tmp 2] [.int .i64 0] (rT res_nil)
 refine W.blockK (by kernel_rfl) (fun K10 n10 s10 o10 q10 p10 => ?_)
 refine W.loopK (by kernel_rfl) (fun I21 K21 b21 n21 e21 q21 p21 => ?_)
 have L21 : ∀ (m : Nat) (t7 : Int) (h_22 : AHeap), journal_Check_L0 t6 k11 m t7 h_22 = some (rR, hR) → Go w0 m0 (Func.ntmps Try.f16) I21 [(1, v1), (6, .agg t6), (7, .int .i64 t7)] [] h_22 := by
  intro m
  induction m with
  | zero => intro t7 h_22 hF; cases hF
  | succ m ih21 =>
   intro t7 h_22 hF
   rw [journal_Check_L0_s] at hF; unfold journal_Check_L0b at hF
   refine b21 ?_
   refine oG fun n23 => W.r ?_
   refine oB 8 hF fun t8 hF => ?_
   refine oV [(1, v1), (6, .agg t6), (7, .int .i64 t7), (8, .bool t8)] (n23 ?_)
   refine W.s (fun K25 n25 e25 q25 p25 => ?_)
   cases t8 with
   | true =>
    refine oT hF fun hF => ?_
    refine oZ (n25 ?_)
    refine oH fun n26 q26 => ?_
    refine W.blockK (by kernel_rfl) (fun K27 n27 s27 o27 q27 p27 => ?_)
    refine oG fun n28 => W.r ?_
    replace hF := outK_some hF; obtain ⟨v9, h_29, e30, hF⟩ := hF
    replace hF := obind_some hF; obtain ⟨t9, c31, hF⟩ := hF
    have c31 := avAgg_some c31
    subst c31
    refine WL.b (some 9) (.agg t9) h_29 e30 ?_
    refine oN 4 hF fun h_32 hF => ?_
    refine oW 99 (.agg t9) hF fun h_34 hF => ?_
    refine oV [(1, v1), (4, (newP h_29)), (6, .agg t6), (7, .int .i64 t7)] (n28 ?_)
    refine W.s (fun K36 n36 e36 q36 p36 => ?_)
    refine W.r ?_
    refine oA 10 (AV.ptr (AHeap.next h_29) 0) ?_
    refine oLi 11 3 hF fun t11 hF => ?_
    refine oB 12 hF fun t12 hF => ?_
    refine oA 13 (.bool t12) ?_
    obtain ⟨j19, e41, hF⟩ := lett_some hF
    have J42 : ∀ (t19 : Bool) (h_40 : AHeap), j19 t19 h_40 = some (rR, hR) → WL Try.prog w0 m0 (Func.ntmps Try.f16) (Code.ops (Code.p1 (Code.p2 (Code.p1 (Code.p1 (Code.p2 (Code.p2 (Code.p1 (Code.p1 (Code.p2 (Code.p1 (Code.p2 (codeOf Try.f16))))))))))))) 10 K36 [(1, v1), (6, .agg t6), (7, .int .i64 t7), (19, .bool t19)] [] h_40 := by
     intro t19 h_40 hF
     rw [e41] at hF
     refine oV [(1, v1), (6, .agg t6), (7, .int .i64 t7), (19, .bool t19)] (n36 ?_)
     cases t19 with
     | true =>
      refine oT hF fun hF => ?_
      refine oG fun n43 => W.r ?_
      refine oA 2 (.int .i64 2) ?_
      refine oV [(2, .int .i64 2)] (n43 (oY (q27 (q26 (q21 (q10 (q4 ?_)))))))
      exact lZ hF [.tmp 2] [.int .i64 2] (rT res_nil)
     | false =>
      refine oU hF fun hF => ?_
      refine oZ (n27 (n26 (W.r ?_)))
      refine oI 20 .i64 hF fun t20 hF => ?_
      refine oA 7 (.int .i64 t20) ?_
      refine oV [(1, v1), (6, .agg t6), (7, .int .i64 t20)] (n21 ?_)
      exact gW _ (ih21 _ _ hF)
    cases t12 with
    | true =>
     replace hF := ifB_t hF
     refine WL.o (some 14) ?_
     refine WL.o (some 15) ?_
     refine WL.o (some 16) ?_
     refine WL.o (some 17) ?_
     refine WL.o (some 18) ?_
     refine oA 19 (.bool true) ?_
     exact lW _ (J42 _ _ hF)
    | false =>
     replace hF := ifB_f hF
     refine oA 14 (AV.ptr (AHeap.next h_29) 0) ?_
     refine oLi 15 3 hF fun t15 hF => ?_
     refine oA 16 (AV.ptr (AHeap.next h_29) 1) ?_
     refine oLi 17 3 hF fun t17 hF => ?_
     refine oB 18 hF fun t18 hF => ?_
     refine oA 19 (.bool t18) ?_
     exact lW _ (J42 _ _ hF)
   | false =>
    refine oU hF fun hF => ?_
    refine W.exit (by kernel_rfl) ?_
    refine e25 (e21 ?_)
    refine s10 (by kernel_rfl) ?_
    exact gW _ (J11 _ hF)
 exact gW _ (L21 _ _ _ hF)
noncomputable def journal_numbers (_ : CallF) (_ : Nat) (t0 : List AV) (h : AHeap) : R :=
 outK (opBox h 35 (some (.agg t0))) fun v1 h_2 =>
 lett (newH h_2 100 [.int .i64 0, .int .i64 0, .int .i64 0, .int .i64 0, .int .i64 0, .int .i64 0, .int .i64 0, .int .i64 0]) fun h_4 =>
 obind (fldP 0 v1) fun t3 =>
 obind (ldCell h_4 t3) fun v4 =>
 obind (avInt .i64 v4) fun t4 =>
 obind (fldP 1 v1) fun t6 =>
 obind (fldP 0 t6) fun t7 =>
 obind (ldCell h_4 t7) fun v8 =>
 obind (avInt .i64 v8) fun t8 =>
 obind (fldP 1 v1) fun t10 =>
 obind (fldP 1 t10) fun t11 =>
 obind (ldCell h_4 t11) fun v12 =>
 obind (avInt .i64 v12) fun t12 =>
 obind (fldP 3 v1) fun t14 =>
 obind (ldCell h_4 t14) fun v15 =>
 obind (avInt .i64 v15) fun t15 =>
 obind (bldS Try.prog 100 [(0, .agg ([.int .i64 t4, .int .i64 1048576] : List AV)), (1, .agg ([.int .i64 t8, .int .i64 1099511627776] : List AV)), (2, .agg ([.int .i64 t12, .int .i64 1048576] : List AV)), (3, .agg ([.int .i64 t15, .int .i64 1048576] : List AV))]) fun t17 =>
 obind (stRow h_4 8 t17 (newP h_2)) fun h_22 =>
 obind (ldRow h_22 8 (newP h_2)) fun w2 =>
 some (.ret (.agg w2), h_22)
set_option maxHeartbeats 4000000 in
set_option maxRecDepth 20000 in
theorem journal_numbers_ok {call : CallF} (_ : SaysAll Try.prog call) {n : Nat} {t0 : List AV} {h : AHeap} {rR : ARes} {hR : AHeap} (hF : journal_numbers call n t0 h = some (rR, hR)) : Says Try.prog 40 [.agg t0] h rR hR := by
 unfold journal_numbers at hF
 refine sO Try.func40 fun w0 m0 => ?_
 refine wW [(0, .agg t0)] ?_
 refine oG fun n1 => W.r ?_
 refine oK 1 hF fun v1 h_2 hF => ?_
 refine oN 2 hF fun h_4 hF => ?_
 refine oV [(1, v1), (2, (newP h_2))] (n1 ?_)
 refine oG fun n6 => W.r ?_
 refine oF 3 35 0 hF fun t3 hF => ?_
 refine oLi 4 3 hF fun t4 hF => ?_
 refine oA 5 (.agg ([.int .i64 t4, .int .i64 1048576] : List AV)) ?_
 refine oF 6 35 1 hF fun t6 hF => ?_
 refine oF 7 30 0 hF fun t7 hF => ?_
 refine oLi 8 3 hF fun t8 hF => ?_
 refine oA 9 (.agg ([.int .i64 t8, .int .i64 1099511627776] : List AV)) ?_
 refine oF 10 35 1 hF fun t10 hF => ?_
 refine oF 11 30 1 hF fun t11 hF => ?_
 refine oLi 12 3 hF fun t12 hF => ?_
 refine oA 13 (.agg ([.int .i64 t12, .int .i64 1048576] : List AV)) ?_
 refine oF 14 35 2 hF fun t14 hF => ?_
 refine oLi 15 3 hF fun t15 hF => ?_
 refine oA 16 (.agg ([.int .i64 t15, .int .i64 1048576] : List AV)) ?_
 obtain ⟨t17, e21, hF⟩ := obind_some hF
 refine WL.val (d := (some 17)) (v := .agg t17) (h' := h_4) (by kernel_rfl) (by kernel_rfl) (bld_ok (by kernel_rfl) e21) ?_
 refine oW 100 (.agg t17) hF fun h_22 hF => ?_
 refine oV [(2, (newP h_2))] (n6 (oY ?_))
 obtain ⟨w2, e24, hF⟩ := obind_some hF
 exact lZ hF [.cell 2 100] [.agg w2] (rY e24 res_nil)
noncomputable def journal_Journal_Next (_ : CallF) (_ : Nat) (t0 : AV) (t1 : Int) (h : AHeap) : R :=
 lett (newH h 30 [.int .i64 0, .int .i64 0]) fun h_2 =>
 outK (opBin Try.prog h_2 .eql 25 true (some t0) (some AV.nilp)) fun v8 h_6 =>
 obind (avBool v8) fun t8 =>
 ifB t8
 (
  obind (stRow h_6 2 ([.int .i64 0, .int .i64 0] : List AV) (newP h)) fun h_10 =>
  obind (ldRow h_10 2 (newP h)) fun w4 =>
  some (.ret (.tup [.agg w4, .int .i64 0]), h_10))
 (
  obind (nilC t0) fun t11 =>
  obind (fldP 2 t11) fun t12 =>
  obind (ldCell h_6 t12) fun v13 =>
  outK (opLookup Try.prog h_6 87 false (some v13) (some (.int .i64 t1))) fun v15 h_17 =>
  obind (avAgg v15) fun t15 =>
  lett (newH h_17 35 [.int .i64 0, .int .i64 0, .int .i64 0, .int .i64 0, .str 0 0]) fun h_20 =>
  obind (stRow h_20 5 t15 (newP h_17)) fun h_22 =>
  obind (ldRow h_22 2 (AV.ptr (AHeap.next h_17) 1)) fun t17 =>
  obind (ldCell h_22 (AV.ptr (AHeap.next h_17) 3)) fun v19 =>
  obind (avInt .i64 v19) fun t19 =>
  lett (IntKind.i64.wrap (t19 + 1)) fun (t20 : Int) =>
  obind (stRow h_22 2 t17 (newP h)) fun h_29 =>
  chk (reLoad Try.prog h_29 3 (AV.ptr (AHeap.next h_17) 3) (.int .i64 t19) && (true && true)) <|
  obind (ldRow h_29 2 (newP h)) fun w4_33 =>
  some (.ret (.tup [.agg w4_33, .int .i64 t20]), h_29))
set_option maxHeartbeats 4000000 in
set_option maxRecDepth 20000 in
theorem journal_Journal_Next_ok {call : CallF} (hc : SaysAll Try.prog call) {n : Nat} {t0 : AV} {t1 : Int} {h : AHeap} {rR : ARes} {hR : AHeap} (hF : journal_Journal_Next call n t0 t1 h = some (rR, hR)) : Says Try.prog 10 [t0, .int .i64 t1] h rR hR := by
 unfold journal_Journal_Next at hF
 refine sO Try.func10 fun w0 m0 => ?_
 refine wW [(0, t0), (1, .int .i64 t1)] ?_
 refine oG fun n1 => W.r ?_
 refine oN 4 hF fun h_2 hF => ?_
 refine oA 5 (.int .i64 0) ?_
 refine oV [(0, t0), (1, .int .i64 t1), (4, (newP h))] (n1 ?_)
 refine oH fun n4 q4 => ?_
 refine oG fun n5 => W.r ?_
 refine oA 7 t0 ?_
 replace hF := outK_some hF; obtain ⟨v8, h_6, e7, hF⟩ := hF
 replace hF := obind_some hF; obtain ⟨t8, c8, hF⟩ := hF
 have c8 := avBool_some c8
 subst c8
 refine WL.b (some 8) (.bool t8) h_6 e7 ?_
 refine oV [(0, t0), (1, .int .i64 t1), (4, (newP h)), (8, .bool t8)] (n5 ?_)
 cases t8 with
 | true =>
  refine oT hF fun hF => ?_
  refine oG fun n9 => W.r ?_
  refine oA 9 (.agg ([.int .i64 0, .int .i64 0] : List AV)) ?_
  refine oW 30 (.agg ([.int .i64 0, .int .i64 0] : List AV)) hF fun h_10 hF => ?_
  refine oA 5 (.int .i64 0) ?_
  refine oV [(4, (newP h)), (5, .int .i64 0)] (n9 (oY (q4 ?_)))
  obtain ⟨w4, e12, hF⟩ := obind_some hF
  exact lZ hF [.cell 4 30, .tmp 5] [.agg w4, .int .i64 0] (rY e12 (rT res_nil))
 | false =>
  refine oU hF fun hF => ?_
  refine oZ (n4 ?_)
  refine oG fun n13 => W.r ?_
  refine oA 10 t0 ?_
  refine oC0 11 hF fun t11 hF => ?_
  refine oF 12 89 2 hF fun t12 hF => ?_
  refine oL 13 87 hF fun v13 hF => ?_
  refine oA 14 (.int .i64 t1) ?_
  replace hF := outK_some hF; obtain ⟨v15, h_17, e18, hF⟩ := hF
  replace hF := obind_some hF; obtain ⟨t15, c19, hF⟩ := hF
  have c19 := avAgg_some c19
  subst c19
  refine WL.b (some 15) (.agg t15) h_17 e18 ?_
  refine oN 6 hF fun h_20 hF => ?_
  refine oW 35 (.agg t15) hF fun h_22 hF => ?_
  refine oV [(4, (newP h)), (6, (newP h_17))] (n13 ?_)
  refine oG fun n24 => ?_
  refine W.draw (by kernel_rfl) (hc.ok w0) (plan := [0, 1, 2, 3, 4, 5, 6]) (by kernel_rfl) (by kernel_rfl) (by kernel_rfl) ?_
  refine WD.a 0 (some 16) (AV.ptr (AHeap.next h_17) 1) h_22 ?_
  obtain ⟨t17, e25, hF⟩ := obind_some hF
  refine WD.b 1 (some 17) (.agg t17) h_22 (load_row (P := Try.prog) (h := h_22) (t := 30) (by kernel_rfl) (by kernel_rfl) e25) ?_
  refine WD.a 0 (some 18) (AV.ptr (AHeap.next h_17) 3) h_22 ?_
  replace hF := obind_some hF; obtain ⟨v19, e26, hF⟩ := hF
  replace hF := obind_some hF; obtain ⟨t19, c27, hF⟩ := hF
  have c27 := avInt_some c27
  subst c27
  refine WD.b 1 (some 19) (.int .i64 t19) h_22 (load_cell (P := Try.prog) (h := h_22) (t := 3) (by kernel_rfl) e26) ?_
  obtain ⟨t20, e28, hF⟩ := lett_some hF
  refine WD.val (d := (some 20)) (v := .int .i64 t20) (h' := h_22) (by kernel_rfl) (by kernel_rfl) (val_of (AV.int .i64) e28 (by kernel_rfl)) (k := 0) (by kernel_rfl) (fun e => absurd e (by decide)) (by decide) ?_
  obtain ⟨h_29, e30, hF⟩ := obind_some hF
  obtain ⟨k31, hF⟩ := chk_some hF
  refine WD.eff (h' := h_29) (by kernel_rfl) (by kernel_rfl) (Eq.trans (by kernel_rfl) (store_row (P := Try.prog) (h := h_22) (t := 30) (v := (.agg t17)) (by kernel_rfl) (by kernel_rfl) e30)) (k := 2) (by kernel_rfl) (fun _ => (Eq.trans (by kernel_rfl) k31)) (by decide) ?_
  refine WD.a 0 (some 5) (.int .i64 t20) h_29 ?_
  refine WD.nil ?_
  refine gW [(4, (newP h)), (5, .int .i64 t20)] (n24 (oY ?_))
  obtain ⟨w4_33, e32, hF⟩ := obind_some hF
  exact lZ hF [.cell 4 30, .tmp 5] [.agg w4_33, .int .i64 t20] (rY e32 (rT res_nil))
noncomputable def journal_Journal_Add (call : CallF) (_ : Nat) (t0 : AV) (t1 : List AV) (h : AHeap) : R :=
 outK (opBox h 35 (some (.agg t1))) fun v3 h_2 =>
 outK (opBin Try.prog h_2 .eql 25 true (some t0) (some AV.nilp)) fun v10 h_6 =>
 obind (avBool v10) fun t10 =>
 ifB t10
 (
  some (.ret (.int .i64 1), h_6))
 (
  obind (nilC t0) fun t12 =>
  obind (fldP 3 t12) fun t13 =>
  obind (ldCell h_6 t13) fun v14 =>
  obind (avInt .i64 v14) fun t14 =>
  lett ((t14 : Int) != 0) fun (t15 : Bool) =>
  ifB t15
  (
   obind (nilC t0) fun t17 =>
   obind (fldP 3 t17) fun t18 =>
   obind (ldCell h_6 t18) fun v19 =>
   obind (avInt .i64 v19) fun t19 =>
   some (.ret (.int .i64 t19), h_6))
  (
   obind (ldRow h_6 5 v3) fun t20 =>
   callN (call 16 [.agg t20] h_6) fun r21 h_25 =>
   obind (avInt .i64 r21) fun t21 =>
   lett ((t21 : Int) != 0) fun (t23 : Bool) =>
   ifB t23
   (
    some (.ret (.int .i64 t21), h_25))
   (
    obind (ldRow h_25 5 v3) fun t26 =>
    callN (call 35 [t0, .agg t26] h_25) fun r27 h_34 =>
    obind (avInt .i64 r27) fun t27 =>
    lett ((t27 : Int) != 0) fun (t29 : Bool) =>
    ifB t29
    (
     some (.ret (.int .i64 t27), h_34))
    (
     obind (ldRow h_34 5 v3) fun t32 =>
     callN (call 36 [.agg t32] h_34) fun r33 h_42 =>
     obind (extT 0 r33) fun v34 =>
     obind (avStr v34) fun t34 =>
     obind (extT 1 r33) fun v35 =>
     obind (avInt .i64 v35) fun t35 =>
     lett ((t35 : Int) != 0) fun (t37 : Bool) =>
     ifB t37
     (
      some (.ret (.int .i64 t35), h_42))
     (
      obind (nilC t0) fun t41 =>
      obind (fldP 0 t41) fun t42 =>
      obind (ldCell h_42 t42) fun v43 =>
      callN (call 23 [v43, .int .i64 0, strA t34] h_42) fun r45 h_56 =>
      obind (avInt .i64 r45) fun t45 =>
      obind (nilC t0) fun t46 =>
      obind (fldP 3 t46) fun t47 =>
      obind (stRow h_56 1 [.int .i64 t45] t47) fun h_61 =>
      obind (nilC t0) fun t49 =>
      obind (fldP 3 t49) fun t50 =>
      obind (ldCell h_61 t50) fun v51 =>
      obind (avInt .i64 v51) fun t51 =>
      lett ((t51 : Int) == 0) fun (t52 : Bool) =>
      lett (fun  (h_71 : AHeap) =>
       obind (nilC t0) fun t62 =>
       obind (fldP 3 t62) fun t63 =>
       obind (ldCell h_71 t63) fun v64 =>
       obind (avInt .i64 v64) fun t64 =>
       lett ((t64 : Int) == 0) fun (t65 : Bool) =>
       lett (fun  (h_80 : AHeap) =>
        obind (nilC t0) fun t70 =>
        obind (fldP 3 t70) fun t71 =>
        obind (ldCell h_80 t71) fun v72 =>
        obind (avInt .i64 v72) fun t72 =>
        some (.ret (.int .i64 t72), h_80)) fun k79 =>
       ifB t65
       (
        obind (ldRow h_71 5 v3) fun t67 =>
        callN (call 37 [t0, .agg t67] h_71) fun _ h_87 =>
        k79 h_87)
       (
        k79 h_71)) fun k70 =>
      ifB t52
      (
       obind (nilC t0) fun t55 =>
       obind (fldP 0 t55) fun t56 =>
       obind (ldCell h_61 t56) fun v57 =>
       callN (call 34 [v57, .int .i64 0] h_61) fun r58 h_92 =>
       obind (avInt .i64 r58) fun t58 =>
       obind (nilC t0) fun t59 =>
       obind (fldP 3 t59) fun t60 =>
       obind (stRow h_92 1 [.int .i64 t58] t60) fun h_97 =>
       k70 h_97)
      (
       k70 h_61))))))
set_option maxHeartbeats 4000000 in
set_option maxRecDepth 20000 in
theorem journal_Journal_Add_ok {call : CallF} (hc : SaysAll Try.prog call) {n : Nat} {t0 : AV} {t1 : List AV} {h : AHeap} {rR : ARes} {hR : AHeap} (hF : journal_Journal_Add call n t0 t1 h = some (rR, hR)) : Says Try.prog 11 [t0, .agg t1] h rR hR := by
 unfold journal_Journal_Add at hF
 refine sO Try.func11 fun w0 m0 => ?_
 refine wW [(0, t0), (1, .agg t1)] ?_
 refine oG fun n1 => W.r ?_
 refine oK 3 hF fun v3 h_2 hF => ?_
 refine oA 4 (.int .i64 0) ?_
 refine oV [(0, t0), (3, v3)] (n1 ?_)
 refine oH fun n4 q4 => ?_
 refine oG fun n5 => W.r ?_
 refine oA 9 t0 ?_
 replace hF := outK_some hF; obtain ⟨v10, h_6, e7, hF⟩ := hF
 replace hF := obind_some hF; obtain ⟨t10, c8, hF⟩ := hF
 have c8 := avBool_some c8
 subst c8
 refine WL.b (some 10) (.bool t10) h_6 e7 ?_
 refine oV [(0, t0), (3, v3), (10, .bool t10)] (n5 ?_)
 cases t10 with
 | true =>
  refine oT hF fun hF => ?_
  refine oG fun n9 => W.r ?_
  refine oA 4 (.int .i64 1) ?_
  refine oV [(4, .int .i64 1)] (n9 (oY (q4 ?_)))
  exact lZ hF [.tmp 4] [.int .i64 1] (rT res_nil)
 | false =>
  refine oU hF fun hF => ?_
  refine oZ (n4 ?_)
  refine oH fun n10 q10 => ?_
  refine oG fun n11 => W.r ?_
  refine oA 11 t0 ?_
  refine oC0 12 hF fun t12 hF => ?_
  refine oF 13 89 3 hF fun t13 hF => ?_
  refine oLi 14 26 hF fun t14 hF => ?_
  refine oB 15 hF fun t15 hF => ?_
  refine oV [(0, t0), (3, v3), (15, .bool t15)] (n11 ?_)
  cases t15 with
  | true =>
   refine oT hF fun hF => ?_
   refine oG fun n17 => W.r ?_
   refine oA 16 t0 ?_
   refine oC0 17 hF fun t17 hF => ?_
   refine oF 18 89 3 hF fun t18 hF => ?_
   refine oLi 19 26 hF fun t19 hF => ?_
   refine oA 4 (.int .i64 t19) ?_
   refine oV [(4, .int .i64 t19)] (n17 (oY (q10 ?_)))
   exact lZ hF [.tmp 4] [.int .i64 t19] (rT res_nil)
  | false =>
   refine oU hF fun hF => ?_
   refine oZ (n10 ?_)
   refine oH fun n22 q22 => ?_
   refine oG fun n23 => W.r ?_
   refine oR 20 35 hF fun t20 hF => ?_
   refine oCi hc 21 hF fun t21 h_25 hF => ?_
   refine oA 5 (.int .i64 t21) ?_
   refine oV [(0, t0), (3, v3), (5, .int .i64 t21)] (n23 ?_)
   refine oG fun n28 => W.r ?_
   refine oA 22 (.int .i64 t21) ?_
   refine oB 23 hF fun t23 hF => ?_
   refine oV [(0, t0), (3, v3), (5, .int .i64 t21), (23, .bool t23)] (n28 ?_)
   cases t23 with
   | true =>
    refine oT hF fun hF => ?_
    refine oG fun n30 => W.r ?_
    refine oA 24 (.int .i64 t21) ?_
    refine oA 4 (.int .i64 t21) ?_
    refine oV [(4, .int .i64 t21)] (n30 (oY (q22 ?_)))
    exact lZ hF [.tmp 4] [.int .i64 t21] (rT res_nil)
   | false =>
    refine oU hF fun hF => ?_
    refine oZ (n22 ?_)
    refine oH fun n31 q31 => ?_
    refine oG fun n32 => W.r ?_
    refine oA 25 t0 ?_
    refine oR 26 35 hF fun t26 hF => ?_
    refine oCi hc 27 hF fun t27 h_34 hF => ?_
    refine oA 6 (.int .i64 t27) ?_
    refine oV [(0, t0), (3, v3), (6, .int .i64 t27)] (n32 ?_)
    refine oG fun n37 => W.r ?_
    refine oA 28 (.int .i64 t27) ?_
    refine oB 29 hF fun t29 hF => ?_
    refine oV [(0, t0), (3, v3), (6, .int .i64 t27), (29, .bool t29)] (n37 ?_)
    cases t29 with
    | true =>
     refine oT hF fun hF => ?_
     refine oG fun n39 => W.r ?_
     refine oA 30 (.int .i64 t27) ?_
     refine oA 4 (.int .i64 t27) ?_
     refine oV [(4, .int .i64 t27)] (n39 (oY (q31 ?_)))
     exact lZ hF [.tmp 4] [.int .i64 t27] (rT res_nil)
    | false =>
     refine oU hF fun hF => ?_
     refine oZ (n31 ?_)
     refine oG fun n40 => W.r ?_
     refine oR 32 35 hF fun t32 hF => ?_
     refine oC hc (some 33) hF fun r33 h_42 hF => ?_
     refine oA 31 r33 ?_
     refine oEs 34 hF fun t34 hF => ?_
     refine oEi 35 hF fun t35 hF => ?_
     refine oA 7 (strA t34) ?_
     refine oA 8 (.int .i64 t35) ?_
     refine oV [(0, t0), (3, v3), (7, strA t34), (8, .int .i64 t35)] (n40 ?_)
     refine oH fun n48 q48 => ?_
     refine oG fun n49 => W.r ?_
     refine oA 36 (.int .i64 t35) ?_
     refine oB 37 hF fun t37 hF => ?_
     refine oV [(0, t0), (3, v3), (7, strA t34), (8, .int .i64 t35), (37, .bool t37)] (n49 ?_)
     cases t37 with
     | true =>
      refine oT hF fun hF => ?_
      refine oG fun n51 => W.r ?_
      refine oA 38 (.int .i64 t35) ?_
      refine oA 4 (.int .i64 t35) ?_
      refine oV [(4, .int .i64 t35)] (n51 (oY (q48 ?_)))
      exact lZ hF [.tmp 4] [.int .i64 t35] (rT res_nil)
     | false =>
      refine oU hF fun hF => ?_
      refine oZ (n48 ?_)
      refine oG fun n52 => W.r ?_
      refine oA 39 t0 ?_
      refine oA 40 t0 ?_
      refine oC0 41 hF fun t41 hF => ?_
      refine oF 42 89 0 hF fun t42 hF => ?_
      refine oL 43 23 hF fun v43 hF => ?_
      refine oA 44 (strA t34) ?_
      refine oCi hc 45 hF fun t45 h_56 hF => ?_
      refine oC0 46 hF fun t46 hF => ?_
      refine oF 47 89 3 hF fun t47 hF => ?_
      refine oW 26 (.int .i64 t45) hF fun h_61 hF => ?_
      refine oV [(0, t0), (3, v3)] (n52 ?_)
      refine W.s (fun K63 n63 e63 q63 p63 => ?_)
      refine oG fun n64 => W.r ?_
      refine oA 48 t0 ?_
      refine oC0 49 hF fun t49 hF => ?_
      refine oF 50 89 3 hF fun t50 hF => ?_
      refine oLi 51 26 hF fun t51 hF => ?_
      refine oB 52 hF fun t52 hF => ?_
      refine oV [(0, t0), (3, v3), (52, .bool t52)] (n64 ?_)
      obtain ⟨k70, e70, hF⟩ := lett_some hF
      have J70 : ∀  (h_71 : AHeap), k70 h_71 = some (rR, hR) → Go w0 m0 (Func.ntmps Try.f11) (K63 .normal) [(0, t0), (3, v3)] [] h_71 := by
       intro  h_71 hF
       rw [e70] at hF
       refine n63 ?_
       refine W.s (fun K72 n72 e72 q72 p72 => ?_)
       refine oG fun n73 => W.r ?_
       refine oA 61 t0 ?_
       refine oC0 62 hF fun t62 hF => ?_
       refine oF 63 89 3 hF fun t63 hF => ?_
       refine oLi 64 26 hF fun t64 hF => ?_
       refine oB 65 hF fun t65 hF => ?_
       refine oV [(0, t0), (3, v3), (65, .bool t65)] (n73 ?_)
       obtain ⟨k79, e79, hF⟩ := lett_some hF
       have J79 : ∀  (h_80 : AHeap), k79 h_80 = some (rR, hR) → Go w0 m0 (Func.ntmps Try.f11) (K72 .normal) [(0, t0)] [] h_80 := by
        intro  h_80 hF
        rw [e79] at hF
        refine n72 ?_
        refine oG fun n81 => W.r ?_
        refine oA 69 t0 ?_
        refine oC0 70 hF fun t70 hF => ?_
        refine oF 71 89 3 hF fun t71 hF => ?_
        refine oLi 72 26 hF fun t72 hF => ?_
        refine oA 4 (.int .i64 t72) ?_
        refine oV [(4, .int .i64 t72)] (n81 (oY ?_))
        exact lZ hF [.tmp 4] [.int .i64 t72] (rT res_nil)
       cases t65 with
       | true =>
        refine oT hF fun hF => ?_
        refine W.r ?_
        refine oA 66 t0 ?_
        refine oR 67 35 hF fun t67 hF => ?_
        refine oC hc (some 68) hF fun r68 h_87 hF => ?_
        refine oV [(0, t0)] ?_
        exact gW _ (J79 _ hF)
       | false =>
        refine oU hF fun hF => ?_
        refine oZ ?_
        exact gW _ (J79 _ hF)
      cases t52 with
      | true =>
       refine oT hF fun hF => ?_
       refine W.r ?_
       refine oA 53 t0 ?_
       refine oA 54 t0 ?_
       refine oC0 55 hF fun t55 hF => ?_
       refine oF 56 89 0 hF fun t56 hF => ?_
       refine oL 57 23 hF fun v57 hF => ?_
       refine oCi hc 58 hF fun t58 h_92 hF => ?_
       refine oC0 59 hF fun t59 hF => ?_
       refine oF 60 89 3 hF fun t60 hF => ?_
       refine oW 26 (.int .i64 t58) hF fun h_97 hF => ?_
       refine oV [(0, t0), (3, v3)] ?_
       exact gW _ (J70 _ hF)
      | false =>
       refine oU hF fun hF => ?_
       refine oZ ?_
       exact gW _ (J70 _ hF)
noncomputable def journal_Journal_refuses (call : CallF) (_ : Nat) (t0 : AV) (t1 : List AV) (h : AHeap) : R :=
 outK (opBox h 35 (some (.agg t1))) fun v3 h_2 =>
 obind (fldP 0 v3) fun t9 =>
 obind (ldCell h_2 t9) fun v10 =>
 obind (avInt .i64 v10) fun t10 =>
 callN (call 10 [t0, .int .i64 t10] h_2) fun r11 h_8 =>
 obind (extT 0 r11) fun v12 =>
 obind (avAgg v12) fun t12 =>
 obind (extT 1 r11) fun v13 =>
 obind (avInt .i64 v13) fun t13 =>
 lett (newH h_8 30 [.int .i64 0, .int .i64 0]) fun h_14 =>
 obind (stRow h_14 2 t12 (newP h_8)) fun h_16 =>
 obind (ldRow h_16 2 (newP h_8)) fun t14 =>
 obind (fldP 1 v3) fun t15 =>
 obind (ldRow h_16 2 t15) fun t16 =>
 callN (call 53 [.agg t14, .agg t16] h_16) fun r17 h_23 =>
 obind (avBool r17) fun t17 =>
 ifB t17
 (
  some (.ret (.int .i64 220), h_23))
 (
  obind (fldP 3 v3) fun t18 =>
  obind (ldCell h_23 t18) fun v19 =>
  obind (avInt .i64 v19) fun t19 =>
  lett ((t19 : Int) != t13) fun (t21 : Bool) =>
  ifB t21
  (
   some (.ret (.int .i64 221), h_23))
  (
   some (.ret (.int .i64 0), h_23)))
set_option maxHeartbeats 4000000 in
set_option maxRecDepth 20000 in
theorem journal_Journal_refuses_ok {call : CallF} (hc : SaysAll Try.prog call) {n : Nat} {t0 : AV} {t1 : List AV} {h : AHeap} {rR : ARes} {hR : AHeap} (hF : journal_Journal_refuses call n t0 t1 h = some (rR, hR)) : Says Try.prog 35 [t0, .agg t1] h rR hR := by
 unfold journal_Journal_refuses at hF
 refine sO Try.func35 fun w0 m0 => ?_
 refine wW [(0, t0), (1, .agg t1)] ?_
 refine oG fun n1 => W.r ?_
 refine oK 3 hF fun v3 h_2 hF => ?_
 refine oA 4 (.int .i64 0) ?_
 refine oV [(0, t0), (3, v3)] (n1 ?_)
 refine oG fun n4 => W.r ?_
 refine oA 8 t0 ?_
 refine oF 9 35 0 hF fun t9 hF => ?_
 refine oLi 10 3 hF fun t10 hF => ?_
 refine oC hc (some 11) hF fun r11 h_8 hF => ?_
 refine oA 7 r11 ?_
 refine oEa 12 hF fun t12 hF => ?_
 refine oEi 13 hF fun t13 hF => ?_
 refine oN 5 hF fun h_14 hF => ?_
 refine oW 30 (.agg t12) hF fun h_16 hF => ?_
 refine oA 6 (.int .i64 t13) ?_
 refine oV [(3, v3), (5, (newP h_8)), (6, .int .i64 t13)] (n4 ?_)
 refine oH fun n18 q18 => ?_
 refine oG fun n19 => W.r ?_
 refine oR 14 30 hF fun t14 hF => ?_
 refine oF 15 35 1 hF fun t15 hF => ?_
 refine oR 16 30 hF fun t16 hF => ?_
 refine oCb hc 17 hF fun t17 h_23 hF => ?_
 refine oV [(3, v3), (6, .int .i64 t13), (17, .bool t17)] (n19 ?_)
 cases t17 with
 | true =>
  refine oT hF fun hF => ?_
  refine oG fun n26 => W.r ?_
  refine oA 4 (.int .i64 220) ?_
  refine oV [(4, .int .i64 220)] (n26 (oY (q18 ?_)))
  exact lZ hF [.tmp 4] [.int .i64 220] (rT res_nil)
 | false =>
  refine oU hF fun hF => ?_
  refine oZ (n18 ?_)
  refine oH fun n27 q27 => ?_
  refine oG fun n28 => W.r ?_
  refine oF 18 35 2 hF fun t18 hF => ?_
  refine oLi 19 3 hF fun t19 hF => ?_
  refine oA 20 (.int .i64 t13) ?_
  refine oB 21 hF fun t21 hF => ?_
  refine oV [(21, .bool t21)] (n28 ?_)
  cases t21 with
  | true =>
   refine oT hF fun hF => ?_
   refine oG fun n33 => W.r ?_
   refine oA 4 (.int .i64 221) ?_
   refine oV [(4, .int .i64 221)] (n33 (oY (q27 ?_)))
   exact lZ hF [.tmp 4] [.int .i64 221] (rT res_nil)
  | false =>
   refine oU hF fun hF => ?_
   refine oZ (n27 ?_)
   refine oG fun n34 => W.r ?_
   refine oA 4 (.int .i64 0) ?_
   refine oV [(4, .int .i64 0)] (n34 (oY ?_))
   exact lZ hF [.tmp 4] [.int .i64 0] (rT res_nil)
noncomputable def journal_Journal_put (_ : CallF) (_ : Nat) (t0 : AV) (t1 : List AV) (h : AHeap) : R :=
 outK (opBox h 35 (some (.agg t1))) fun v3 h_2 =>
 obind (nilC t0) fun t6 =>
 obind (fldP 1 t6) fun t7 =>
 obind (ldCell h_2 t7) fun v8 =>
 obind (ldRow h_2 5 v3) fun t9 =>
 outK (bldSl Try.prog h_2 39 1 [(0, .agg t9)]) fun v10 h_9 =>
 chk (true && (reLoad Try.prog h_9 39 t7 v8 && true)) <|
 outK (opAppend Try.prog h_9 39 39 v8 v10) fun v11 h_12 =>
 obind (nilC t0) fun t12 =>
 obind (fldP 1 t12) fun t13 =>
 obind (stRow h_12 1 (AV.cells v11) t13) fun h_16 =>
 obind (nilC t0) fun t15 =>
 obind (fldP 2 t15) fun t16 =>
 obind (ldCell h_16 t16) fun v17 =>
 obind (fldP 0 v3) fun t18 =>
 obind (ldCell h_16 t18) fun v19 =>
 obind (avInt .i64 v19) fun t19 =>
 obind (ldRow h_16 5 v3) fun t20 =>
 effK (opMapUpdate Try.prog h_16 87 (some v17) (some (.int .i64 t19)) (some (.agg t20))) fun h_25 =>
 some (.ret (.tup []), h_25)
set_option maxHeartbeats 4000000 in
set_option maxRecDepth 20000 in
theorem journal_Journal_put_ok {call : CallF} (hc : SaysAll Try.prog call) {n : Nat} {t0 : AV} {t1 : List AV} {h : AHeap} {rR : ARes} {hR : AHeap} (hF : journal_Journal_put call n t0 t1 h = some (rR, hR)) : Says Try.prog 37 [t0, .agg t1] h rR hR := by
 unfold journal_Journal_put at hF
 refine sO Try.func37 fun w0 m0 => ?_
 refine wW [(0, t0), (1, .agg t1)] ?_
 refine oG fun n1 => W.r ?_
 refine oK 3 hF fun v3 h_2 hF => ?_
 refine oV [(0, t0), (3, v3)] (n1 ?_)
 refine oG fun n4 => ?_
 refine W.draw (by kernel_rfl) (hc.ok w0) (plan := [0, 1, 2, 3, 4, 5, 6, 7, 8, 9, 10]) (by kernel_rfl) (by kernel_rfl) (by kernel_rfl) ?_
 refine WD.a 0 (some 4) t0 h_2 ?_
 refine WD.a 0 (some 5) t0 h_2 ?_
 obtain ⟨t6, e5, hF⟩ := obind_some hF
 refine WD.b 0 (some 6) t6 h_2 (nil_chk (h := h_2) e5) ?_
 obtain ⟨t7, e6, hF⟩ := obind_some hF
 refine WD.b 0 (some 7) t7 h_2 (field_ptr (P := Try.prog) (h := h_2) (s := 89) (f := 1) (by kernel_rfl) e6) ?_
 obtain ⟨v8, e7, hF⟩ := obind_some hF
 refine WD.b 1 (some 8) v8 h_2 (load_cell (P := Try.prog) (h := h_2) (t := 39) (by kernel_rfl) e7) ?_
 obtain ⟨t9, e8, hF⟩ := obind_some hF
 refine WD.b 1 (some 9) (.agg t9) h_2 (load_row (P := Try.prog) (h := h_2) (t := 35) (by kernel_rfl) (by kernel_rfl) e8) ?_
 obtain ⟨v10, h_9, e10, hF⟩ := outK_some hF
 obtain ⟨k11, hF⟩ := chk_some hF
 refine WD.val (d := (some 10)) (v := v10) (h' := h_9) (by kernel_rfl) (by kernel_rfl) (Eq.trans (by kernel_rfl) e10) (k := 2) (by kernel_rfl) (fun _ => (Eq.trans (by kernel_rfl) k11)) (by decide) ?_
 obtain ⟨v11, h_12, e13, hF⟩ := outK_some hF
 refine WD.val (d := (some 11)) (v := v11) (h' := h_12) (by kernel_rfl) (by kernel_rfl) (Eq.trans (by kernel_rfl) e13) (k := 2) (by kernel_rfl) (fun _ => (by kernel_rfl)) (by decide) ?_
 obtain ⟨t12, e14, hF⟩ := obind_some hF
 refine WD.b 0 (some 12) t12 h_12 (nil_chk (h := h_12) e14) ?_
 obtain ⟨t13, e15, hF⟩ := obind_some hF
 refine WD.b 0 (some 13) t13 h_12 (field_ptr (P := Try.prog) (h := h_12) (s := 89) (f := 1) (by kernel_rfl) e15) ?_
 obtain ⟨h_16, e17, hF⟩ := obind_some hF
 refine WD.eff (h' := h_16) (by kernel_rfl) (by kernel_rfl) (Eq.trans (by kernel_rfl) (store_row (P := Try.prog) (h := h_12) (t := 39) (v := v11) (by kernel_rfl) (by kernel_rfl) e17)) (k := 2) (by kernel_rfl) (fun _ => (by kernel_rfl)) (by decide) ?_
 refine WD.nil ?_
 refine gW [(0, t0), (3, v3)] (n4 ?_)
 refine W.draw (by kernel_rfl) (hc.ok w0) (plan := [0, 1, 2, 3, 4, 5, 6, 7]) (by kernel_rfl) (by kernel_rfl) (by kernel_rfl) ?_
 refine WD.a 0 (some 14) t0 h_16 ?_
 obtain ⟨t15, e18, hF⟩ := obind_some hF
 refine WD.b 0 (some 15) t15 h_16 (nil_chk (h := h_16) e18) ?_
 obtain ⟨t16, e19, hF⟩ := obind_some hF
 refine WD.b 0 (some 16) t16 h_16 (field_ptr (P := Try.prog) (h := h_16) (s := 89) (f := 2) (by kernel_rfl) e19) ?_
 obtain ⟨v17, e20, hF⟩ := obind_some hF
 refine WD.b 1 (some 17) v17 h_16 (load_cell (P := Try.prog) (h := h_16) (t := 87) (by kernel_rfl) e20) ?_
 obtain ⟨t18, e21, hF⟩ := obind_some hF
 refine WD.b 0 (some 18) t18 h_16 (field_ptr (P := Try.prog) (h := h_16) (s := 35) (f := 0) (by kernel_rfl) e21) ?_
 replace hF := obind_some hF; obtain ⟨v19, e22, hF⟩ := hF
 replace hF := obind_some hF; obtain ⟨t19, c23, hF⟩ := hF
 have c23 := avInt_some c23
 subst c23
 refine WD.b 1 (some 19) (.int .i64 t19) h_16 (load_cell (P := Try.prog) (h := h_16) (t := 3) (by kernel_rfl) e22) ?_
 obtain ⟨t20, e24, hF⟩ := obind_some hF
 refine WD.b 1 (some 20) (.agg t20) h_16 (load_row (P := Try.prog) (h := h_16) (t := 35) (by kernel_rfl) (by kernel_rfl) e24) ?_
 obtain ⟨h_25, e26, hF⟩ := effK_some hF
 refine WD.eff (h' := h_25) (by kernel_rfl) (by kernel_rfl) (Eq.trans (by kernel_rfl) e26) (k := 2) (by kernel_rfl) (fun _ => (by kernel_rfl)) (by decide) ?_
 refine WD.nil ?_
 refine gW [] ?_
 exact lY hF [] [] res_nil
noncomputable def journal_Journal_All (_ : CallF) (_ : Nat) (t0 : AV) (h : AHeap) : R :=
 outK (opBox h 25 (some t0)) fun v1 h_2 =>
 some (.ret (AV.fn 62 [] [v1]), h_2)
set_option maxHeartbeats 4000000 in
set_option maxRecDepth 20000 in
theorem journal_Journal_All_ok {call : CallF} (_ : SaysAll Try.prog call) {n : Nat} {t0 : AV} {h : AHeap} {rR : ARes} {hR : AHeap} (hF : journal_Journal_All call n t0 h = some (rR, hR)) : Says Try.prog 39 [t0] h rR hR := by
 unfold journal_Journal_All at hF
 refine sO Try.func39 fun w0 m0 => ?_
 refine wW [(0, t0)] ?_
 refine oG fun n1 => W.r ?_
 refine oK 1 hF fun v1 h_2 hF => ?_
 refine oA 2 AV.nfn ?_
 refine oV [(1, v1)] (n1 ?_)
 refine oG fun n4 => W.r ?_
 refine oA 3 (AV.fn 62 [] [v1]) ?_
 refine oA 2 (AV.fn 62 [] [v1]) ?_
 refine oV [(2, (AV.fn 62 [] [v1]))] (n4 (oY ?_))
 exact lZ hF [.tmp 2] [(AV.fn 62 [] [v1])] (rT res_nil)
noncomputable def journal_framed_L0b (call : CallF) (t10 : List AV) (k12 : Bytes → AHeap → R) (self : Bytes → Int → AHeap → R) (t4_37 : Bytes) (t11 : Int) (h_38 : AHeap) : R :=
 lett (decide (t11 < 4)) fun (t12 : Bool) =>
 ifB t12
 (
  outK (opIndex Try.prog h_38 100 (some (.agg t10)) (some (.int .i64 t11))) fun v13 h_45 =>
  obind (avAgg v13) fun t13 =>
  lett (newH h_45 99 [.int .i64 0, .int .i64 0]) fun h_48 =>
  obind (stRow h_48 2 t13 (newP h_45)) fun h_50 =>
  obind (ldCell h_50 (AV.ptr (AHeap.next h_45) 0)) fun v16 =>
  obind (avInt .i64 v16) fun t16 =>
  lett (IntKind.u64.wrap t16) fun (t17 : Int) =>
  callN (call 58 [.int .u64 t17] h_50) fun r18 h_55 =>
  obind (avStr r18) fun t18 =>
  obind (addS t4_37 t18) fun t19 =>
  lett (IntKind.i64.wrap (t11 + 1)) fun (t20 : Int) =>
  self t19 t20 h_55)
 (
  k12 t4_37 h_38)
noncomputable def journal_framed_L0 (call : CallF) (t10 : List AV) (k12 : Bytes → AHeap → R) : Nat → Bytes → Int → AHeap → R := iterR (fun _ _ _ => none) (journal_framed_L0b call t10 k12)
theorem journal_framed_L0_s (call : CallF) (t10 : List AV) (k12 : Bytes → AHeap → R) (m : Nat) : journal_framed_L0 call t10 k12 (m + 1) = journal_framed_L0b call t10 k12 (journal_framed_L0 call t10 k12 m) := rfl
noncomputable def journal_framed (call : CallF) (n : Nat) (t0 : List AV) (h : AHeap) : R :=
 outK (opBox h 35 (some (.agg t0))) fun v1 h_2 =>
 obind (ldRow h_2 5 v1) fun t9 =>
 callN (call 40 [.agg t9] h_2) fun r10 h_8 =>
 obind (avAgg r10) fun t10 =>
 lett (fun (t4 : Bytes) (h_13 : AHeap) =>
  obind (fldP 4 v1) fun t22 =>
  obind (ldCell h_13 t22) fun v23 =>
  obind (avStr v23) fun t23 =>
  callN (call 59 [strA t23] h_13) fun r24 h_18 =>
  obind (extT 0 r24) fun v25 =>
  obind (avStr v25) fun t25 =>
  obind (extT 1 r24) fun v26 =>
  obind (avInt .i64 v26) fun t26 =>
  lett ((t26 : Int) != 0) fun (t28 : Bool) =>
  ifB t28
  (
   some (.ret (.tup [strA ([] : Bytes), .int .i64 t26]), h_18))
  (
   obind (addS t4 t25) fun t32 =>
   callN (call 60 [strA t32] h_18) fun r33 h_30 =>
   obind (extT 0 r33) fun v34 =>
   obind (avStr v34) fun t34 =>
   obind (extT 1 r33) fun v35 =>
   obind (avInt .i64 v35) fun t35 =>
   some (.ret (.tup [strA t34, .int .i64 t35]), h_30))) fun k12 =>
 journal_framed_L0 call t10 k12 n ([] : Bytes) 0 h_8
set_option maxHeartbeats 4000000 in
set_option maxRecDepth 20000 in
theorem journal_framed_ok {call : CallF} (hc : SaysAll Try.prog call) {n : Nat} {t0 : List AV} {h : AHeap} {rR : ARes} {hR : AHeap} (hF : journal_framed call n t0 h = some (rR, hR)) : Says Try.prog 36 [.agg t0] h rR hR := by
 unfold journal_framed at hF
 refine sO Try.func36 fun w0 m0 => ?_
 refine wW [(0, .agg t0)] ?_
 refine oG fun n1 => W.r ?_
 refine oK 1 hF fun v1 h_2 hF => ?_
 refine oA 2 (strA ([] : Bytes)) ?_
 refine oA 3 (.int .i64 0) ?_
 refine oV [(1, v1)] (n1 ?_)
 refine oG fun n4 => W.r ?_
 refine oA 4 (strA ([] : Bytes)) ?_
 refine oV [(1, v1), (4, strA ([] : Bytes))] (n4 ?_)
 refine W.s (fun K5 n5 e5 q5 p5 => ?_)
 refine oG fun n6 => W.r ?_
 refine oR 9 35 hF fun t9 hF => ?_
 refine oCa hc 10 hF fun t10 h_8 hF => ?_
 refine oA 11 (.int .i64 0) ?_
 refine oV [(1, v1), (4, strA ([] : Bytes)), (10, .agg t10), (11, .int .i64 0)] (n6 ?_)
 obtain ⟨k12, e12, hF⟩ := lett_some hF
 have J12 : ∀ (t4 : Bytes) (h_13 : AHeap), k12 t4 h_13 = some (rR, hR) → Go w0 m0 (Func.ntmps Try.f36) (K5 .normal) [(1, v1), (4, strA t4)] [] h_13 := by
  intro t4 h_13 hF
  rw [e12] at hF
  refine n5 ?_
  refine oG fun n14 => W.r ?_
  refine oF 22 35 3 hF fun t22 hF => ?_
  refine oLs 23 9 hF fun t23 hF => ?_
  refine oC hc (some 24) hF fun r24 h_18 hF => ?_
  refine oA 21 r24 ?_
  refine oEs 25 hF fun t25 hF => ?_
  refine oEi 26 hF fun t26 hF => ?_
  refine oA 7 (strA t25) ?_
  refine oA 8 (.int .i64 t26) ?_
  refine oV [(4, strA t4), (7, strA t25), (8, .int .i64 t26)] (n14 ?_)
  refine oH fun n24 q24 => ?_
  refine oG fun n25 => W.r ?_
  refine oA 27 (.int .i64 t26) ?_
  refine oB 28 hF fun t28 hF => ?_
  refine oV [(4, strA t4), (7, strA t25), (8, .int .i64 t26), (28, .bool t28)] (n25 ?_)
  cases t28 with
  | true =>
   refine oT hF fun hF => ?_
   refine oG fun n27 => W.r ?_
   refine oA 29 (.int .i64 t26) ?_
   refine oA 2 (strA ([] : Bytes)) ?_
   refine oA 3 (.int .i64 t26) ?_
   refine oV [(2, strA ([] : Bytes)), (3, .int .i64 t26)] (n27 (oY (q24 ?_)))
   exact lZ hF [.tmp 2, .tmp 3] [strA ([] : Bytes), .int .i64 t26] (rT (rT res_nil))
  | false =>
   refine oU hF fun hF => ?_
   refine oZ (n24 ?_)
   refine oG fun n28 => W.r ?_
   refine oA 30 (strA t4) ?_
   refine oA 31 (strA t25) ?_
   obtain ⟨t32, e29, hF⟩ := obind_some hF
   refine WL.b (some 32) (strA t32) h_18 (add_str (P := Try.prog) (h := h_18) (t := 9) (lit := false) e29) ?_
   refine oC hc (some 33) hF fun r33 h_30 hF => ?_
   refine oEs 34 hF fun t34 hF => ?_
   refine oEi 35 hF fun t35 hF => ?_
   refine oA 2 (strA t34) ?_
   refine oA 3 (.int .i64 t35) ?_
   refine oV [(2, strA t34), (3, .int .i64 t35)] (n28 (oY ?_))
   exact lZ hF [.tmp 2, .tmp 3] [strA t34, .int .i64 t35] (rT (rT res_nil))
 refine W.blockK (by kernel_rfl) (fun K11 n11 s11 o11 q11 p11 => ?_)
 refine W.loopK (by kernel_rfl) (fun I36 K36 b36 n36 e36 q36 p36 => ?_)
 have L36 : ∀ (m : Nat) (t4_37 : Bytes) (t11 : Int) (h_38 : AHeap), journal_framed_L0 call t10 k12 m t4_37 t11 h_38 = some (rR, hR) → Go w0 m0 (Func.ntmps Try.f36) I36 [(1, v1), (4, strA t4_37), (10, .agg t10), (11, .int .i64 t11)] [] h_38 := by
  intro m
  induction m with
  | zero => intro t4_37 t11 h_38 hF; cases hF
  | succ m ih36 =>
   intro t4_37 t11 h_38 hF
   rw [journal_framed_L0_s] at hF; unfold journal_framed_L0b at hF
   refine b36 ?_
   refine oG fun n39 => W.r ?_
   refine oB 12 hF fun t12 hF => ?_
   refine oV [(1, v1), (4, strA t4_37), (10, .agg t10), (11, .int .i64 t11), (12, .bool t12)] (n39 ?_)
   refine W.s (fun K41 n41 e41 q41 p41 => ?_)
   cases t12 with
   | true =>
    refine oT hF fun hF => ?_
    refine oZ (n41 ?_)
    refine oG fun n42 => ?_
    refine W.blockK (by kernel_rfl) (fun K43 n43 s43 o43 q43 p43 => ?_)
    refine oG fun n44 => W.r ?_
    replace hF := outK_some hF; obtain ⟨v13, h_45, e46, hF⟩ := hF
    replace hF := obind_some hF; obtain ⟨t13, c47, hF⟩ := hF
    have c47 := avAgg_some c47
    subst c47
    refine WL.b (some 13) (.agg t13) h_45 e46 ?_
    refine oN 6 hF fun h_48 hF => ?_
    refine oW 99 (.agg t13) hF fun h_50 hF => ?_
    refine oV [(1, v1), (4, strA t4_37), (6, (newP h_45)), (10, .agg t10), (11, .int .i64 t11)] (n44 (W.r ?_))
    refine oA 14 (strA t4_37) ?_
    refine oA 15 (AV.ptr (AHeap.next h_45) 0) ?_
    refine oLi 16 3 hF fun t16 hF => ?_
    refine oI 17 .u64 hF fun t17 hF => ?_
    refine oCs hc 18 hF fun t18 h_55 hF => ?_
    obtain ⟨t19, e58, hF⟩ := obind_some hF
    refine WL.b (some 19) (strA t19) h_55 (add_str (P := Try.prog) (h := h_55) (t := 9) (lit := false) e58) ?_
    refine oA 4 (strA t19) ?_
    refine oV [(1, v1), (4, strA t19), (10, .agg t10), (11, .int .i64 t11)] (n43 (n42 (W.r ?_)))
    refine oI 20 .i64 hF fun t20 hF => ?_
    refine oA 11 (.int .i64 t20) ?_
    refine oV [(1, v1), (4, strA t19), (10, .agg t10), (11, .int .i64 t20)] (n36 ?_)
    exact gW _ (ih36 _ _ _ hF)
   | false =>
    refine oU hF fun hF => ?_
    refine W.exit (by kernel_rfl) ?_
    refine e41 (e36 ?_)
    refine s11 (by kernel_rfl) ?_
    exact gW _ (J12 _ _ hF)
 exact gW _ (L36 _ _ _ _ hF)
noncomputable def journal_sendOf_L0b (call : CallF) (r8 : AV) (h_5 : AHeap) (k13 : AHeap → R) (self : Int → AHeap → R) (t9 : Int) (h_62 : AHeap) : R :=
 lett (decide (t9 < 4)) fun (t10 : Bool) =>
 ifB t10
 (
  callN (call 76 [r8] h_62) fun r14 h_69 =>
  obind (avInt .u64 r14) fun t14 =>
  lett (if 1099511627777 < t14 then 1099511627777 else t14) fun (t15 : Int) =>
  lett (IntKind.i64.wrap t15) fun (t16 : Int) =>
  obind (idxA 4 1 (newP h_5) t9) fun t17 =>
  obind (stRow h_69 1 [.int .i64 t16] t17) fun h_75 =>
  lett (IntKind.i64.wrap (t9 + 1)) fun (t18 : Int) =>
  self t18 h_75)
 (
  k13 h_62)
noncomputable def journal_sendOf_L0 (call : CallF) (r8 : AV) (h_5 : AHeap) (k13 : AHeap → R) : Nat → Int → AHeap → R := iterR (fun _ _ => none) (journal_sendOf_L0b call r8 h_5 k13)
theorem journal_sendOf_L0_s (call : CallF) (r8 : AV) (h_5 : AHeap) (k13 : AHeap → R) (m : Nat) : journal_sendOf_L0 call r8 h_5 k13 (m + 1) = journal_sendOf_L0b call r8 h_5 k13 (journal_sendOf_L0 call r8 h_5 k13 m) := rfl
noncomputable def journal_sendOf (call : CallF) (n : Nat) (t0 : Bytes) (h : AHeap) : R :=
 lett (newH h 35 [.int .i64 0, .int .i64 0, .int .i64 0, .int .i64 0, .str 0 0]) fun h_2 =>
 callN (call 75 [strA t0] h_2) fun r8 h_5 =>
 lett (newH h_5 148 [.int .i64 0, .int .i64 0, .int .i64 0, .int .i64 0]) fun h_8 =>
 lett (fun  (h_14 : AHeap) =>
  obind (idxA 4 1 (newP h_5) 0) fun t19 =>
  obind (ldCell h_14 t19) fun v20 =>
  obind (avInt .i64 v20) fun t20 =>
  obind (idxA 4 1 (newP h_5) 1) fun t21 =>
  obind (ldCell h_14 t21) fun v22 =>
  obind (avInt .i64 v22) fun t22 =>
  obind (idxA 4 1 (newP h_5) 2) fun t23 =>
  obind (ldCell h_14 t23) fun v24 =>
  obind (avInt .i64 v24) fun t24 =>
  obind (idxA 4 1 (newP h_5) 3) fun t26 =>
  obind (ldCell h_14 t26) fun v27 =>
  obind (avInt .i64 v27) fun t27 =>
  callN (call 77 [r8, .int .i64 64] h_14) fun r29 h_28 =>
  obind (avStr r29) fun t29 =>
  chk (reLoad Try.prog h_28 3 t26 (.int .i64 t27) && (reLoad Try.prog h_28 3 t23 (.int .i64 t24) && (reLoad Try.prog h_28 3 t21 (.int .i64 t22) && (reLoad Try.prog h_28 3 t19 (.int .i64 t20) && true)))) <|
  obind (bldS Try.prog 35 [(0, .int .i64 t20), (1, .agg ([.int .i64 t22, .int .i64 t24] : List AV)), (2, .int .i64 t27), (3, strA t29)]) fun t30 =>
  obind (stRow h_28 5 t30 (newP h)) fun h_33 =>
  callN (call 78 [r8] h_33) fun r32 h_37 =>
  obind (avAgg r32) fun t32 =>
  obind (partF 0 t32) fun v33 =>
  obind (avInt .i64 v33) fun t33 =>
  lett ((t33 : Int) != 0) fun (t34 : Bool) =>
  lett (fun (t39 : Bool) (h_43 : AHeap) =>
   ifB t39
   (
    obind (stRow h_43 5 ([.int .i64 0, .int .i64 0, .int .i64 0, .int .i64 0, .str 0 0] : List AV) (newP h)) fun h_47 =>
    obind (ldRow h_47 5 (newP h)) fun w2 =>
    some (.ret (.tup [.agg w2, .bool false]), h_47))
   (
    obind (ldRow h_43 5 (newP h)) fun t41 =>
    obind (stRow h_43 5 t41 (newP h)) fun h_52 =>
    obind (ldRow h_52 5 (newP h)) fun w2_55 =>
    some (.ret (.tup [.agg w2_55, .bool true]), h_52))) fun j39 =>
  ifB t34
  (
   j39 true h_37)
  (
   obind (ldRow h_37 5 (newP h)) fun t36 =>
   callN (call 16 [.agg t36] h_37) fun r37 h_57 =>
   obind (avInt .i64 r37) fun t37 =>
   lett ((t37 : Int) != 0) fun (t38 : Bool) =>
   j39 t38 h_57)) fun k13 =>
 journal_sendOf_L0 call r8 h_5 k13 n 0 h_8
set_option maxHeartbeats 4000000 in
set_option maxRecDepth 20000 in
theorem journal_sendOf_ok {call : CallF} (hc : SaysAll Try.prog call) {n : Nat} {t0 : Bytes} {h : AHeap} {rR : ARes} {hR : AHeap} (hF : journal_sendOf call n t0 h = some (rR, hR)) : Says Try.prog 55 [strA t0] h rR hR := by
 unfold journal_sendOf at hF
 refine sO Try.func55 fun w0 m0 => ?_
 refine wW [(0, strA t0)] ?_
 refine oG fun n1 => W.r ?_
 refine oN 2 hF fun h_2 hF => ?_
 refine oA 3 (.bool false) ?_
 refine oV [(0, strA t0), (2, (newP h))] (n1 ?_)
 refine oG fun n4 => W.r ?_
 refine oA 7 (strA t0) ?_
 refine oC hc (some 8) hF fun r8 h_5 hF => ?_
 refine oA 4 r8 ?_
 refine oV [(2, (newP h)), (4, r8)] (n4 ?_)
 refine oG fun n7 => W.r ?_
 refine oN 5 hF fun h_8 hF => ?_
 refine oV [(2, (newP h)), (4, r8), (5, (newP h_5))] (n7 ?_)
 refine W.s (fun K10 n10 e10 q10 p10 => ?_)
 refine oG fun n11 => W.r ?_
 refine oA 9 (.int .i64 0) ?_
 refine oV [(2, (newP h)), (4, r8), (5, (newP h_5)), (9, .int .i64 0)] (n11 ?_)
 obtain ⟨k13, e13, hF⟩ := lett_some hF
 have J13 : ∀  (h_14 : AHeap), k13 h_14 = some (rR, hR) → Go w0 m0 (Func.ntmps Try.f55) (K10 .normal) [(2, (newP h)), (4, r8), (5, (newP h_5))] [] h_14 := by
  intro  h_14 hF
  rw [e13] at hF
  refine n10 ?_
  refine oG fun n15 => ?_
  refine W.draw (by kernel_rfl) (hc.ok w0) (plan := [0, 1, 2, 3, 4, 5, 6, 7, 8, 9, 10, 11, 12]) (by kernel_rfl) (by kernel_rfl) (by kernel_rfl) ?_
  obtain ⟨t19, e16, hF⟩ := obind_some hF
  refine WD.b 0 (some 19) t19 h_14 (index_arr (P := Try.prog) (h := h_14) (t := 148) (e' := 3) (k := .i64) (by kernel_rfl) (by kernel_rfl) (by kernel_rfl) e16) ?_
  replace hF := obind_some hF; obtain ⟨v20, e17, hF⟩ := hF
  replace hF := obind_some hF; obtain ⟨t20, c18, hF⟩ := hF
  have c18 := avInt_some c18
  subst c18
  refine WD.b 1 (some 20) (.int .i64 t20) h_14 (load_cell (P := Try.prog) (h := h_14) (t := 3) (by kernel_rfl) e17) ?_
  obtain ⟨t21, e19, hF⟩ := obind_some hF
  refine WD.b 0 (some 21) t21 h_14 (index_arr (P := Try.prog) (h := h_14) (t := 148) (e' := 3) (k := .i64) (by kernel_rfl) (by kernel_rfl) (by kernel_rfl) e19) ?_
  replace hF := obind_some hF; obtain ⟨v22, e20, hF⟩ := hF
  replace hF := obind_some hF; obtain ⟨t22, c21, hF⟩ := hF
  have c21 := avInt_some c21
  subst c21
  refine WD.b 1 (some 22) (.int .i64 t22) h_14 (load_cell (P := Try.prog) (h := h_14) (t := 3) (by kernel_rfl) e20) ?_
  obtain ⟨t23, e22, hF⟩ := obind_some hF
  refine WD.b 0 (some 23) t23 h_14 (index_arr (P := Try.prog) (h := h_14) (t := 148) (e' := 3) (k := .i64) (by kernel_rfl) (by kernel_rfl) (by kernel_rfl) e22) ?_
  replace hF := obind_some hF; obtain ⟨v24, e23, hF⟩ := hF
  replace hF := obind_some hF; obtain ⟨t24, c24, hF⟩ := hF
  have c24 := avInt_some c24
  subst c24
  refine WD.b 1 (some 24) (.int .i64 t24) h_14 (load_cell (P := Try.prog) (h := h_14) (t := 3) (by kernel_rfl) e23) ?_
  refine WD.a 0 (some 25) (.agg ([.int .i64 t22, .int .i64 t24] : List AV)) h_14 ?_
  obtain ⟨t26, e25, hF⟩ := obind_some hF
  refine WD.b 0 (some 26) t26 h_14 (index_arr (P := Try.prog) (h := h_14) (t := 148) (e' := 3) (k := .i64) (by kernel_rfl) (by kernel_rfl) (by kernel_rfl) e25) ?_
  replace hF := obind_some hF; obtain ⟨v27, e26, hF⟩ := hF
  replace hF := obind_some hF; obtain ⟨t27, c27, hF⟩ := hF
  have c27 := avInt_some c27
  subst c27
  refine WD.b 1 (some 27) (.int .i64 t27) h_14 (load_cell (P := Try.prog) (h := h_14) (t := 3) (by kernel_rfl) e26) ?_
  refine WD.a 0 (some 28) r8 h_14 ?_
  replace hF := callN_some hF; obtain ⟨r29, h_28, e29, hF⟩ := hF
  replace hF := obind_some hF; obtain ⟨t29, c30, hF⟩ := hF
  have c30 := avStr_some c30
  subst c30
  obtain ⟨k31, hF⟩ := chk_some hF
  refine WD.call (d := (some 29)) (by kernel_rfl) (by kernel_rfl) (by kernel_rfl) e29 (k := 2) (by kernel_rfl) (fun _ => (Eq.trans (by kernel_rfl) k31)) (by decide) ?_
  obtain ⟨t30, e32, hF⟩ := obind_some hF
  refine WD.val (d := (some 30)) (v := .agg t30) (h' := h_28) (by kernel_rfl) (by kernel_rfl) (bld_ok (by kernel_rfl) e32) (k := 0) (by kernel_rfl) (fun e => absurd e (by decide)) (by decide) ?_
  obtain ⟨h_33, e34, hF⟩ := obind_some hF
  refine WD.eff (h' := h_33) (by kernel_rfl) (by kernel_rfl) (Eq.trans (by kernel_rfl) (store_row (P := Try.prog) (h := h_28) (t := 35) (v := (.agg t30)) (by kernel_rfl) (by kernel_rfl) e34)) (k := 2) (by kernel_rfl) (fun _ => (by kernel_rfl)) (by decide) ?_
  refine WD.nil ?_
  refine gW [(2, (newP h)), (4, r8)] (n15 ?_)
  refine oH fun n35 q35 => ?_
  refine W.s (fun K36 n36 e36 q36 p36 => ?_)
  refine W.r ?_
  refine oA 31 r8 ?_
  refine oCa hc 32 hF fun t32 h_37 hF => ?_
  replace hF := obind_some hF; obtain ⟨v33, e40, hF⟩ := hF
  replace hF := obind_some hF; obtain ⟨t33, c41, hF⟩ := hF
  have c41 := avInt_some c41
  subst c41
  refine WL.b (some 33) (.int .i64 t33) h_37 (field_one (P := Try.prog) (h := h_37) (t := 151) (f := 0) (by kernel_rfl) e40) ?_
  refine oB 34 hF fun t34 hF => ?_
  refine oA 35 (.bool t34) ?_
  obtain ⟨j39, e44, hF⟩ := lett_some hF
  have J45 : ∀ (t39 : Bool) (h_43 : AHeap), j39 t39 h_43 = some (rR, hR) → WL Try.prog w0 m0 (Func.ntmps Try.f55) (Code.ops (Code.p1 (Code.p1 (Code.p2 (Code.p2 (Code.p2 (Code.p2 (Code.p2 (codeOf Try.f55))))))))) 9 K36 [(2, (newP h)), (39, .bool t39)] [] h_43 := by
   intro t39 h_43 hF
   rw [e44] at hF
   refine oV [(2, (newP h)), (39, .bool t39)] (n36 ?_)
   cases t39 with
   | true =>
    refine oT hF fun hF => ?_
    refine oG fun n46 => W.r ?_
    refine oA 40 (.agg ([.int .i64 0, .int .i64 0, .int .i64 0, .int .i64 0, .str 0 0] : List AV)) ?_
    refine oW 35 (.agg ([.int .i64 0, .int .i64 0, .int .i64 0, .int .i64 0, .str 0 0] : List AV)) hF fun h_47 hF => ?_
    refine oA 3 (.bool false) ?_
    refine oV [(2, (newP h)), (3, .bool false)] (n46 (oY (q35 ?_)))
    obtain ⟨w2, e49, hF⟩ := obind_some hF
    exact lZ hF [.cell 2 35, .tmp 3] [.agg w2, .bool false] (rY e49 (rT res_nil))
   | false =>
    refine oU hF fun hF => ?_
    refine oZ (n35 ?_)
    refine oG fun n50 => W.r ?_
    refine oR 41 35 hF fun t41 hF => ?_
    refine oW 35 (.agg t41) hF fun h_52 hF => ?_
    refine oA 3 (.bool true) ?_
    refine oV [(2, (newP h)), (3, .bool true)] (n50 (oY ?_))
    obtain ⟨w2_55, e54, hF⟩ := obind_some hF
    exact lZ hF [.cell 2 35, .tmp 3] [.agg w2_55, .bool true] (rY e54 (rT res_nil))
  cases t34 with
  | true =>
   replace hF := ifB_t hF
   refine WL.o (some 36) ?_
   refine WL.o (some 37) ?_
   refine WL.o (some 38) ?_
   refine oA 39 (.bool true) ?_
   exact lW _ (J45 _ _ hF)
  | false =>
   replace hF := ifB_f hF
   refine oR 36 35 hF fun t36 hF => ?_
   refine oCi hc 37 hF fun t37 h_57 hF => ?_
   refine oB 38 hF fun t38 hF => ?_
   refine oA 39 (.bool t38) ?_
   exact lW _ (J45 _ _ hF)
 refine W.blockK (by kernel_rfl) (fun K12 n12 s12 o12 q12 p12 => ?_)
 refine W.loopK (by kernel_rfl) (fun I61 K61 b61 n61 e61 q61 p61 => ?_)
 have L61 : ∀ (m : Nat) (t9 : Int) (h_62 : AHeap), journal_sendOf_L0 call r8 h_5 k13 m t9 h_62 = some (rR, hR) → Go w0 m0 (Func.ntmps Try.f55) I61 [(2, (newP h)), (4, r8), (5, (newP h_5)), (9, .int .i64 t9)] [] h_62 := by
  intro m
  induction m with
  | zero => intro t9 h_62 hF; cases hF
  | succ m ih61 =>
   intro t9 h_62 hF
   rw [journal_sendOf_L0_s] at hF; unfold journal_sendOf_L0b at hF
   refine b61 ?_
   refine oG fun n63 => W.r ?_
   refine oB 10 hF fun t10 hF => ?_
   refine oV [(2, (newP h)), (4, r8), (5, (newP h_5)), (9, .int .i64 t9), (10, .bool t10)] (n63 ?_)
   refine W.s (fun K65 n65 e65 q65 p65 => ?_)
   cases t10 with
   | true =>
    refine oT hF fun hF => ?_
    refine oZ (n65 ?_)
    refine oG fun n66 => ?_
    refine W.blockK (by kernel_rfl) (fun K67 n67 s67 o67 q67 p67 => ?_)
    refine oG fun n68 => W.r ?_
    refine oA 11 (.int .i64 t9) ?_
    refine oA 6 (.int .i64 t9) ?_
    refine oV [(2, (newP h)), (4, r8), (5, (newP h_5)), (6, .int .i64 t9), (9, .int .i64 t9)] (n68 (W.r ?_))
    refine oA 12 (.int .i64 t9) ?_
    refine oA 13 r8 ?_
    refine oCi hc 14 hF fun t14 h_69 hF => ?_
    refine oI 15 .u64 hF fun t15 hF => ?_
    refine oI 16 .i64 hF fun t16 hF => ?_
    refine oQ 17 148 3 .i64 hF fun t17 hF => ?_
    refine oW 3 (.int .i64 t16) hF fun h_75 hF => ?_
    refine oV [(2, (newP h)), (4, r8), (5, (newP h_5)), (9, .int .i64 t9)] (n67 (n66 (W.r ?_)))
    refine oI 18 .i64 hF fun t18 hF => ?_
    refine oA 9 (.int .i64 t18) ?_
    refine oV [(2, (newP h)), (4, r8), (5, (newP h_5)), (9, .int .i64 t18)] (n61 ?_)
    exact gW _ (ih61 _ _ hF)
   | false =>
    refine oU hF fun hF => ?_
    refine W.exit (by kernel_rfl) ?_
    refine e65 (e61 ?_)
    refine s12 (by kernel_rfl) ?_
    exact gW _ (J13 _ hF)
 exact gW _ (L61 _ _ _ hF)
noncomputable def message_Above (_ : CallF) (_ : Nat) (t0 : List AV) (t1 : List AV) (h : AHeap) : R :=
 outK (opBox h 30 (some (.agg t0))) fun v2 h_2 =>
 outK (opBox h_2 30 (some (.agg t1))) fun v3 h_4 =>
 obind (fldP 0 v2) fun t5 =>
 obind (ldCell h_4 t5) fun v6 =>
 obind (avInt .i64 v6) fun t6 =>
 obind (fldP 0 v3) fun t7 =>
 obind (ldCell h_4 t7) fun v8 =>
 obind (avInt .i64 v8) fun t8 =>
 lett ((t6 : Int) != t8) fun (t9 : Bool) =>
 ifB t9
 (
  obind (fldP 0 v2) fun t10 =>
  obind (ldCell h_4 t10) fun v11 =>
  obind (avInt .i64 v11) fun t11 =>
  obind (fldP 0 v3) fun t12 =>
  obind (ldCell h_4 t12) fun v13 =>
  obind (avInt .i64 v13) fun t13 =>
  lett (decide (t11 > t13)) fun (t14 : Bool) =>
  some (.ret (.bool t14), h_4))
 (
  obind (fldP 1 v2) fun t15 =>
  obind (ldCell h_4 t15) fun v16 =>
  obind (avInt .i64 v16) fun t16 =>
  obind (fldP 1 v3) fun t17 =>
  obind (ldCell h_4 t17) fun v18 =>
  obind (avInt .i64 v18) fun t18 =>
  lett (decide (t16 > t18)) fun (t19 : Bool) =>
  some (.ret (.bool t19), h_4))
set_option maxHeartbeats 4000000 in
set_option maxRecDepth 20000 in
theorem message_Above_ok {call : CallF} (_ : SaysAll Try.prog call) {n : Nat} {t0 : List AV} {t1 : List AV} {h : AHeap} {rR : ARes} {hR : AHeap} (hF : message_Above call n t0 t1 h = some (rR, hR)) : Says Try.prog 53 [.agg t0, .agg t1] h rR hR := by
 unfold message_Above at hF
 refine sO Try.func53 fun w0 m0 => ?_
 refine wW [(0, .agg t0), (1, .agg t1)] ?_
 refine oG fun n1 => W.r ?_
 refine oK 2 hF fun v2 h_2 hF => ?_
 refine oK 3 hF fun v3 h_4 hF => ?_
 refine oA 4 (.bool false) ?_
 refine oV [(2, v2), (3, v3)] (n1 ?_)
 refine oH fun n6 q6 => ?_
 refine oG fun n7 => W.r ?_
 refine oF 5 30 0 hF fun t5 hF => ?_
 refine oLi 6 3 hF fun t6 hF => ?_
 refine oF 7 30 0 hF fun t7 hF => ?_
 refine oLi 8 3 hF fun t8 hF => ?_
 refine oB 9 hF fun t9 hF => ?_
 refine oV [(2, v2), (3, v3), (9, .bool t9)] (n7 ?_)
 cases t9 with
 | true =>
  refine oT hF fun hF => ?_
  refine oG fun n15 => W.r ?_
  refine oF 10 30 0 hF fun t10 hF => ?_
  refine oLi 11 3 hF fun t11 hF => ?_
  refine oF 12 30 0 hF fun t12 hF => ?_
  refine oLi 13 3 hF fun t13 hF => ?_
  refine oB 14 hF fun t14 hF => ?_
  refine oA 4 (.bool t14) ?_
  refine oV [(4, .bool t14)] (n15 (oY (q6 ?_)))
  exact lZ hF [.tmp 4] [.bool t14] (rT res_nil)
 | false =>
  refine oU hF fun hF => ?_
  refine oZ (n6 ?_)
  refine oG fun n23 => W.r ?_
  refine oF 15 30 1 hF fun t15 hF => ?_
  refine oLi 16 3 hF fun t16 hF => ?_
  refine oF 17 30 1 hF fun t17 hF => ?_
  refine oLi 18 3 hF fun t18 hF => ?_
  refine oB 19 hF fun t19 hF => ?_
  refine oA 4 (.bool t19) ?_
  refine oV [(4, .bool t19)] (n23 (oY ?_))
  exact lZ hF [.tmp 4] [.bool t19] (rT res_nil)
noncomputable def worldF (n : Nat) (call : CallF) : CallF := callOf [
 (8, gcF (fn0 (disk_New call n))),
 (23, fn3 Dv (Di .i64) Ds (disk_Disk_Append call n)),
 (34, fn2 Dv (Di .i64) (disk_Disk_Sync call n)),
 (33, fn3 Dv (Di .i64) (Di .i64) (disk_Disk_Cut call n)),
 (22, fn2 Dv (Di .i64) (disk_Disk_Power call n)),
 (72, fn1 Dv (disk_Disk_On call n)),
 (27, fn1 Dv (disk_Disk_Ops call n)),
 (47, fn2 Dv (Di .i64) (disk_Disk_refuses call n)),
 (48, fn3 Dv (Di .i64) Da (disk_Disk_change call n)),
 (56, fn2 Dv Dv (disk_content_do call n)),
 (57, fn1 Dv (disk_Disk_step call n)),
 (52, gcF (fn1 (Di .i64) (disk_isFile call n))),
 (31, fn2 Dv (Di .i64) (disk_Disk_Read call n)),
 (26, fn2 Dv (Di .i64) (disk_Disk_Sure call n)),
 (28, fn2 Dv (Di .i64) (disk_Disk_Loose call n)),
 (13, fn3 Dv Dv (Di .i64) (disk_Disk_Crash call n)),
 (38, fn3 Dv (Di .i64) (Di .i64) (disk_file_crash call n)),
 (61, fn1 Dv (disk_content_copy call n)),
 (83, fn1 Dv (slices_Clone___byte_byte_ call n)),
 (94, gcF (fn2 (Di .u32) Ds (sum_More call n))),
 (92, gcF (fn1 Ds (sum_Of call n))),
 (81, gcF (fn1 Ds (frame_summed call n))),
 (86, gcF (fn1 Ds (frame_whole call n))),
 (60, gcF (fn1 Ds (frame_Put call n))),
 (74, gcF (fn1 Ds (frame_Take call n))),
 (54, fn1 Ds (frame_All call n)),
 (82, gcF (fn1 (Di .u32) (wire_U32 call n))),
 (58, gcF (fn1 (Di .u64) (wire_U64 call n))),
 (75, gcF (fn1 Ds (wire_New call n))),
 (79, gcF (fn2 (Di .u64) (Di .i64) (wire_number call n))),
 (80, gcF (fn1 Ds (wire_length call n))),
 (59, gcF (fn1 Ds (wire_Text call n))),
 (85, fn1 Dv (wire_Reader_U32 call n)),
 (76, fn1 Dv (wire_Reader_U64 call n)),
 (78, fn1 Dv (wire_Reader_End call n)),
 (91, fn1 Dv (wire_Reader_Fault call n)),
 (87, fn2 Dv (Di .i64) (wire_Reader_number call n)),
 (90, fn1 Dv (wire_Reader_whole call n)),
 (89, fn3 Dv (Di .i64) (Di .i64) (wire_Reader_fail call n)),
 (88, fn2 Dv (Di .i64) (wire_Reader_head call n)),
 (77, fn2 Dv (Di .i64) (wire_Reader_Text call n)),
 (16, gcF (fn1 Da (journal_Check call n))),
 (40, gcF (fn1 Da (journal_numbers call n))),
 (10, fn2 Dv (Di .i64) (journal_Journal_Next call n)),
 (11, fn2 Dv Da (journal_Journal_Add call n)),
 (35, fn2 Dv Da (journal_Journal_refuses call n)),
 (37, fn2 Dv Da (journal_Journal_put call n)),
 (39, fn1 Dv (journal_Journal_All call n)),
 (36, gcF (fn1 Da (journal_framed call n))),
 (55, gcF (fn1 Ds (journal_sendOf call n))),
 (53, gcF (fn2 Da Da (message_Above call n)))]
set_option maxRecDepth 20000 in
theorem worldF_ok (n : Nat) (call : CallF) (hc : SaysAll Try.prog call) : SaysAll Try.prog (worldF n call) := (callOf_cons (gcF_holds (fn0_holds (disk_New_ok hc)))
 (callOf_cons (fn3_holds Dv (Di .i64) Ds (disk_Disk_Append_ok hc))
 (callOf_cons (fn2_holds Dv (Di .i64) (disk_Disk_Sync_ok hc))
 (callOf_cons (fn3_holds Dv (Di .i64) (Di .i64) (disk_Disk_Cut_ok hc))
 (callOf_cons (fn2_holds Dv (Di .i64) (disk_Disk_Power_ok hc))
 (callOf_cons (fn1_holds Dv (disk_Disk_On_ok hc))
 (callOf_cons (fn1_holds Dv (disk_Disk_Ops_ok hc))
 (callOf_cons (fn2_holds Dv (Di .i64) (disk_Disk_refuses_ok hc))
 (callOf_cons (fn3_holds Dv (Di .i64) Da (disk_Disk_change_ok hc))
 (callOf_cons (fn2_holds Dv Dv (disk_content_do_ok hc))
 (callOf_cons (fn1_holds Dv (disk_Disk_step_ok hc))
 (callOf_cons (gcF_holds (fn1_holds (Di .i64) (disk_isFile_ok hc)))
 (callOf_cons (fn2_holds Dv (Di .i64) (disk_Disk_Read_ok hc))
 (callOf_cons (fn2_holds Dv (Di .i64) (disk_Disk_Sure_ok hc))
 (callOf_cons (fn2_holds Dv (Di .i64) (disk_Disk_Loose_ok hc))
 (callOf_cons (fn3_holds Dv Dv (Di .i64) (disk_Disk_Crash_ok hc))
 (callOf_cons (fn3_holds Dv (Di .i64) (Di .i64) (disk_file_crash_ok hc))
 (callOf_cons (fn1_holds Dv (disk_content_copy_ok hc))
 (callOf_cons (fn1_holds Dv (slices_Clone___byte_byte__ok hc))
 (callOf_cons (gcF_holds (fn2_holds (Di .u32) Ds (sum_More_ok hc)))
 (callOf_cons (gcF_holds (fn1_holds Ds (sum_Of_ok hc)))
 (callOf_cons (gcF_holds (fn1_holds Ds (frame_summed_ok hc)))
 (callOf_cons (gcF_holds (fn1_holds Ds (frame_whole_ok hc)))
 (callOf_cons (gcF_holds (fn1_holds Ds (frame_Put_ok hc)))
 (callOf_cons (gcF_holds (fn1_holds Ds (frame_Take_ok hc)))
 (callOf_cons (fn1_holds Ds (frame_All_ok hc))
 (callOf_cons (gcF_holds (fn1_holds (Di .u32) (wire_U32_ok hc)))
 (callOf_cons (gcF_holds (fn1_holds (Di .u64) (wire_U64_ok hc)))
 (callOf_cons (gcF_holds (fn1_holds Ds (wire_New_ok hc)))
 (callOf_cons (gcF_holds (fn2_holds (Di .u64) (Di .i64) (wire_number_ok hc)))
 (callOf_cons (gcF_holds (fn1_holds Ds (wire_length_ok hc)))
 (callOf_cons (gcF_holds (fn1_holds Ds (wire_Text_ok hc)))
 (callOf_cons (fn1_holds Dv (wire_Reader_U32_ok hc))
 (callOf_cons (fn1_holds Dv (wire_Reader_U64_ok hc))
 (callOf_cons (fn1_holds Dv (wire_Reader_End_ok hc))
 (callOf_cons (fn1_holds Dv (wire_Reader_Fault_ok hc))
 (callOf_cons (fn2_holds Dv (Di .i64) (wire_Reader_number_ok hc))
 (callOf_cons (fn1_holds Dv (wire_Reader_whole_ok hc))
 (callOf_cons (fn3_holds Dv (Di .i64) (Di .i64) (wire_Reader_fail_ok hc))
 (callOf_cons (fn2_holds Dv (Di .i64) (wire_Reader_head_ok hc))
 (callOf_cons (fn2_holds Dv (Di .i64) (wire_Reader_Text_ok hc))
 (callOf_cons (gcF_holds (fn1_holds Da (journal_Check_ok hc)))
 (callOf_cons (gcF_holds (fn1_holds Da (journal_numbers_ok hc)))
 (callOf_cons (fn2_holds Dv (Di .i64) (journal_Journal_Next_ok hc))
 (callOf_cons (fn2_holds Dv Da (journal_Journal_Add_ok hc))
 (callOf_cons (fn2_holds Dv Da (journal_Journal_refuses_ok hc))
 (callOf_cons (fn2_holds Dv Da (journal_Journal_put_ok hc))
 (callOf_cons (fn1_holds Dv (journal_Journal_All_ok hc))
 (callOf_cons (gcF_holds (fn1_holds Da (journal_framed_ok hc)))
 (callOf_cons (gcF_holds (fn1_holds Ds (journal_sendOf_ok hc)))
 (callOf_cons (gcF_holds (fn2_holds Da Da (message_Above_ok hc)))
 callOf_nil)))))))))))))))))))))))))))))))))))))))))))))))))))
noncomputable def world (n d : Nat) : CallF := iterW (worldF n) d
theorem world_ok (n d : Nat) : SaysAll Try.prog (world n d) := iterW_ok (worldF_ok n) d
theorem w_disk_New (n d : Nat)  (h : AHeap) : world n (d + 1) 8 [] h = gcR h (disk_New (world n d) n  h) :=
 Eq.trans (b := gcR h (fn0 (disk_New (world n d) n) [] h)) (by kernel_rfl) (congrArg (gcR h) (fn0_eq  _  h))
theorem w_disk_Disk_Append (n d : Nat) (t0 : AV) (t1 : Int) (t2 : Bytes) (h : AHeap) : world n (d + 1) 23 [t0, .int .i64 t1, strA t2] h = disk_Disk_Append (world n d) n t0 t1 t2 h :=
 Eq.trans (b := fn3 Dv (Di .i64) Ds (disk_Disk_Append (world n d) n) [t0, .int .i64 t1, strA t2] h) (by kernel_rfl) (fn3_eq Dv (Di .i64) Ds _ t0 t1 t2 h)
theorem w_disk_Disk_Sync (n d : Nat) (t0 : AV) (t1 : Int) (h : AHeap) : world n (d + 1) 34 [t0, .int .i64 t1] h = disk_Disk_Sync (world n d) n t0 t1 h :=
 Eq.trans (b := fn2 Dv (Di .i64) (disk_Disk_Sync (world n d) n) [t0, .int .i64 t1] h) (by kernel_rfl) (fn2_eq Dv (Di .i64) _ t0 t1 h)
theorem w_disk_Disk_Cut (n d : Nat) (t0 : AV) (t1 : Int) (t2 : Int) (h : AHeap) : world n (d + 1) 33 [t0, .int .i64 t1, .int .i64 t2] h = disk_Disk_Cut (world n d) n t0 t1 t2 h :=
 Eq.trans (b := fn3 Dv (Di .i64) (Di .i64) (disk_Disk_Cut (world n d) n) [t0, .int .i64 t1, .int .i64 t2] h) (by kernel_rfl) (fn3_eq Dv (Di .i64) (Di .i64) _ t0 t1 t2 h)
theorem w_disk_Disk_Power (n d : Nat) (t0 : AV) (t1 : Int) (h : AHeap) : world n (d + 1) 22 [t0, .int .i64 t1] h = disk_Disk_Power (world n d) n t0 t1 h :=
 Eq.trans (b := fn2 Dv (Di .i64) (disk_Disk_Power (world n d) n) [t0, .int .i64 t1] h) (by kernel_rfl) (fn2_eq Dv (Di .i64) _ t0 t1 h)
theorem w_disk_Disk_On (n d : Nat) (t0 : AV) (h : AHeap) : world n (d + 1) 72 [t0] h = disk_Disk_On (world n d) n t0 h :=
 Eq.trans (b := fn1 Dv (disk_Disk_On (world n d) n) [t0] h) (by kernel_rfl) (fn1_eq Dv _ t0 h)
theorem w_disk_Disk_refuses (n d : Nat) (t0 : AV) (t1 : Int) (h : AHeap) : world n (d + 1) 47 [t0, .int .i64 t1] h = disk_Disk_refuses (world n d) n t0 t1 h :=
 Eq.trans (b := fn2 Dv (Di .i64) (disk_Disk_refuses (world n d) n) [t0, .int .i64 t1] h) (by kernel_rfl) (fn2_eq Dv (Di .i64) _ t0 t1 h)
theorem w_disk_Disk_change (n d : Nat) (t0 : AV) (t1 : Int) (t2 : List AV) (h : AHeap) : world n (d + 1) 48 [t0, .int .i64 t1, .agg t2] h = disk_Disk_change (world n d) n t0 t1 t2 h :=
 Eq.trans (b := fn3 Dv (Di .i64) Da (disk_Disk_change (world n d) n) [t0, .int .i64 t1, .agg t2] h) (by kernel_rfl) (fn3_eq Dv (Di .i64) Da _ t0 t1 t2 h)
theorem w_disk_content_do (n d : Nat) (t0 : AV) (t1 : AV) (h : AHeap) : world n (d + 1) 56 [t0, t1] h = disk_content_do (world n d) n t0 t1 h :=
 Eq.trans (b := fn2 Dv Dv (disk_content_do (world n d) n) [t0, t1] h) (by kernel_rfl) (fn2_eq Dv Dv _ t0 t1 h)
theorem w_disk_Disk_step (n d : Nat) (t0 : AV) (h : AHeap) : world n (d + 1) 57 [t0] h = disk_Disk_step (world n d) n t0 h :=
 Eq.trans (b := fn1 Dv (disk_Disk_step (world n d) n) [t0] h) (by kernel_rfl) (fn1_eq Dv _ t0 h)
theorem w_disk_isFile (n d : Nat) (t0 : Int) (h : AHeap) : world n (d + 1) 52 [.int .i64 t0] h = gcR h (disk_isFile (world n d) n t0 h) :=
 Eq.trans (b := gcR h (fn1 (Di .i64) (disk_isFile (world n d) n) [.int .i64 t0] h)) (by kernel_rfl) (congrArg (gcR h) (fn1_eq (Di .i64) _ t0 h))
theorem w_disk_Disk_Read (n d : Nat) (t0 : AV) (t1 : Int) (h : AHeap) : world n (d + 1) 31 [t0, .int .i64 t1] h = disk_Disk_Read (world n d) n t0 t1 h :=
 Eq.trans (b := fn2 Dv (Di .i64) (disk_Disk_Read (world n d) n) [t0, .int .i64 t1] h) (by kernel_rfl) (fn2_eq Dv (Di .i64) _ t0 t1 h)
theorem w_disk_Disk_Crash (n d : Nat) (t0 : AV) (t1 : AV) (t2 : Int) (h : AHeap) : world n (d + 1) 13 [t0, t1, .int .i64 t2] h = disk_Disk_Crash (world n d) n t0 t1 t2 h :=
 Eq.trans (b := fn3 Dv Dv (Di .i64) (disk_Disk_Crash (world n d) n) [t0, t1, .int .i64 t2] h) (by kernel_rfl) (fn3_eq Dv Dv (Di .i64) _ t0 t1 t2 h)
theorem w_disk_file_crash (n d : Nat) (t0 : AV) (t1 : Int) (t2 : Int) (h : AHeap) : world n (d + 1) 38 [t0, .int .i64 t1, .int .i64 t2] h = disk_file_crash (world n d) n t0 t1 t2 h :=
 Eq.trans (b := fn3 Dv (Di .i64) (Di .i64) (disk_file_crash (world n d) n) [t0, .int .i64 t1, .int .i64 t2] h) (by kernel_rfl) (fn3_eq Dv (Di .i64) (Di .i64) _ t0 t1 t2 h)
theorem w_disk_content_copy (n d : Nat) (t0 : AV) (h : AHeap) : world n (d + 1) 61 [t0] h = disk_content_copy (world n d) n t0 h :=
 Eq.trans (b := fn1 Dv (disk_content_copy (world n d) n) [t0] h) (by kernel_rfl) (fn1_eq Dv _ t0 h)
theorem w_slices_Clone___byte_byte_ (n d : Nat) (t0 : AV) (h : AHeap) : world n (d + 1) 83 [t0] h = slices_Clone___byte_byte_ (world n d) n t0 h :=
 Eq.trans (b := fn1 Dv (slices_Clone___byte_byte_ (world n d) n) [t0] h) (by kernel_rfl) (fn1_eq Dv _ t0 h)
theorem w_sum_More (n d : Nat) (t0 : Int) (t1 : Bytes) (h : AHeap) : world n (d + 1) 94 [.int .u32 t0, strA t1] h = gcR h (sum_More (world n d) n t0 t1 h) :=
 Eq.trans (b := gcR h (fn2 (Di .u32) Ds (sum_More (world n d) n) [.int .u32 t0, strA t1] h)) (by kernel_rfl) (congrArg (gcR h) (fn2_eq (Di .u32) Ds _ t0 t1 h))
theorem w_sum_Of (n d : Nat) (t0 : Bytes) (h : AHeap) : world n (d + 1) 92 [strA t0] h = gcR h (sum_Of (world n d) n t0 h) :=
 Eq.trans (b := gcR h (fn1 Ds (sum_Of (world n d) n) [strA t0] h)) (by kernel_rfl) (congrArg (gcR h) (fn1_eq Ds _ t0 h))
theorem w_frame_summed (n d : Nat) (t0 : Bytes) (h : AHeap) : world n (d + 1) 81 [strA t0] h = gcR h (frame_summed (world n d) n t0 h) :=
 Eq.trans (b := gcR h (fn1 Ds (frame_summed (world n d) n) [strA t0] h)) (by kernel_rfl) (congrArg (gcR h) (fn1_eq Ds _ t0 h))
theorem w_frame_whole (n d : Nat) (t0 : Bytes) (h : AHeap) : world n (d + 1) 86 [strA t0] h = gcR h (frame_whole (world n d) n t0 h) :=
 Eq.trans (b := gcR h (fn1 Ds (frame_whole (world n d) n) [strA t0] h)) (by kernel_rfl) (congrArg (gcR h) (fn1_eq Ds _ t0 h))
theorem w_frame_Put (n d : Nat) (t0 : Bytes) (h : AHeap) : world n (d + 1) 60 [strA t0] h = gcR h (frame_Put (world n d) n t0 h) :=
 Eq.trans (b := gcR h (fn1 Ds (frame_Put (world n d) n) [strA t0] h)) (by kernel_rfl) (congrArg (gcR h) (fn1_eq Ds _ t0 h))
theorem w_frame_Take (n d : Nat) (t0 : Bytes) (h : AHeap) : world n (d + 1) 74 [strA t0] h = gcR h (frame_Take (world n d) n t0 h) :=
 Eq.trans (b := gcR h (fn1 Ds (frame_Take (world n d) n) [strA t0] h)) (by kernel_rfl) (congrArg (gcR h) (fn1_eq Ds _ t0 h))
theorem w_frame_All (n d : Nat) (t0 : Bytes) (h : AHeap) : world n (d + 1) 54 [strA t0] h = frame_All (world n d) n t0 h :=
 Eq.trans (b := fn1 Ds (frame_All (world n d) n) [strA t0] h) (by kernel_rfl) (fn1_eq Ds _ t0 h)
theorem w_wire_U32 (n d : Nat) (t0 : Int) (h : AHeap) : world n (d + 1) 82 [.int .u32 t0] h = gcR h (wire_U32 (world n d) n t0 h) :=
 Eq.trans (b := gcR h (fn1 (Di .u32) (wire_U32 (world n d) n) [.int .u32 t0] h)) (by kernel_rfl) (congrArg (gcR h) (fn1_eq (Di .u32) _ t0 h))
theorem w_wire_U64 (n d : Nat) (t0 : Int) (h : AHeap) : world n (d + 1) 58 [.int .u64 t0] h = gcR h (wire_U64 (world n d) n t0 h) :=
 Eq.trans (b := gcR h (fn1 (Di .u64) (wire_U64 (world n d) n) [.int .u64 t0] h)) (by kernel_rfl) (congrArg (gcR h) (fn1_eq (Di .u64) _ t0 h))
theorem w_wire_New (n d : Nat) (t0 : Bytes) (h : AHeap) : world n (d + 1) 75 [strA t0] h = gcR h (wire_New (world n d) n t0 h) :=
 Eq.trans (b := gcR h (fn1 Ds (wire_New (world n d) n) [strA t0] h)) (by kernel_rfl) (congrArg (gcR h) (fn1_eq Ds _ t0 h))
theorem w_wire_number (n d : Nat) (t0 : Int) (t1 : Int) (h : AHeap) : world n (d + 1) 79 [.int .u64 t0, .int .i64 t1] h = gcR h (wire_number (world n d) n t0 t1 h) :=
 Eq.trans (b := gcR h (fn2 (Di .u64) (Di .i64) (wire_number (world n d) n) [.int .u64 t0, .int .i64 t1] h)) (by kernel_rfl) (congrArg (gcR h) (fn2_eq (Di .u64) (Di .i64) _ t0 t1 h))
theorem w_wire_length (n d : Nat) (t0 : Bytes) (h : AHeap) : world n (d + 1) 80 [strA t0] h = gcR h (wire_length (world n d) n t0 h) :=
 Eq.trans (b := gcR h (fn1 Ds (wire_length (world n d) n) [strA t0] h)) (by kernel_rfl) (congrArg (gcR h) (fn1_eq Ds _ t0 h))
theorem w_wire_Text (n d : Nat) (t0 : Bytes) (h : AHeap) : world n (d + 1) 59 [strA t0] h = gcR h (wire_Text (world n d) n t0 h) :=
 Eq.trans (b := gcR h (fn1 Ds (wire_Text (world n d) n) [strA t0] h)) (by kernel_rfl) (congrArg (gcR h) (fn1_eq Ds _ t0 h))
theorem w_wire_Reader_U32 (n d : Nat) (t0 : AV) (h : AHeap) : world n (d + 1) 85 [t0] h = wire_Reader_U32 (world n d) n t0 h :=
 Eq.trans (b := fn1 Dv (wire_Reader_U32 (world n d) n) [t0] h) (by kernel_rfl) (fn1_eq Dv _ t0 h)
theorem w_wire_Reader_U64 (n d : Nat) (t0 : AV) (h : AHeap) : world n (d + 1) 76 [t0] h = wire_Reader_U64 (world n d) n t0 h :=
 Eq.trans (b := fn1 Dv (wire_Reader_U64 (world n d) n) [t0] h) (by kernel_rfl) (fn1_eq Dv _ t0 h)
theorem w_wire_Reader_End (n d : Nat) (t0 : AV) (h : AHeap) : world n (d + 1) 78 [t0] h = wire_Reader_End (world n d) n t0 h :=
 Eq.trans (b := fn1 Dv (wire_Reader_End (world n d) n) [t0] h) (by kernel_rfl) (fn1_eq Dv _ t0 h)
theorem w_wire_Reader_Fault (n d : Nat) (t0 : AV) (h : AHeap) : world n (d + 1) 91 [t0] h = wire_Reader_Fault (world n d) n t0 h :=
 Eq.trans (b := fn1 Dv (wire_Reader_Fault (world n d) n) [t0] h) (by kernel_rfl) (fn1_eq Dv _ t0 h)
theorem w_wire_Reader_number (n d : Nat) (t0 : AV) (t1 : Int) (h : AHeap) : world n (d + 1) 87 [t0, .int .i64 t1] h = wire_Reader_number (world n d) n t0 t1 h :=
 Eq.trans (b := fn2 Dv (Di .i64) (wire_Reader_number (world n d) n) [t0, .int .i64 t1] h) (by kernel_rfl) (fn2_eq Dv (Di .i64) _ t0 t1 h)
theorem w_wire_Reader_whole (n d : Nat) (t0 : AV) (h : AHeap) : world n (d + 1) 90 [t0] h = wire_Reader_whole (world n d) n t0 h :=
 Eq.trans (b := fn1 Dv (wire_Reader_whole (world n d) n) [t0] h) (by kernel_rfl) (fn1_eq Dv _ t0 h)
theorem w_wire_Reader_fail (n d : Nat) (t0 : AV) (t1 : Int) (t2 : Int) (h : AHeap) : world n (d + 1) 89 [t0, .int .i64 t1, .int .i64 t2] h = wire_Reader_fail (world n d) n t0 t1 t2 h :=
 Eq.trans (b := fn3 Dv (Di .i64) (Di .i64) (wire_Reader_fail (world n d) n) [t0, .int .i64 t1, .int .i64 t2] h) (by kernel_rfl) (fn3_eq Dv (Di .i64) (Di .i64) _ t0 t1 t2 h)
theorem w_wire_Reader_head (n d : Nat) (t0 : AV) (t1 : Int) (h : AHeap) : world n (d + 1) 88 [t0, .int .i64 t1] h = wire_Reader_head (world n d) n t0 t1 h :=
 Eq.trans (b := fn2 Dv (Di .i64) (wire_Reader_head (world n d) n) [t0, .int .i64 t1] h) (by kernel_rfl) (fn2_eq Dv (Di .i64) _ t0 t1 h)
theorem w_wire_Reader_Text (n d : Nat) (t0 : AV) (t1 : Int) (h : AHeap) : world n (d + 1) 77 [t0, .int .i64 t1] h = wire_Reader_Text (world n d) n t0 t1 h :=
 Eq.trans (b := fn2 Dv (Di .i64) (wire_Reader_Text (world n d) n) [t0, .int .i64 t1] h) (by kernel_rfl) (fn2_eq Dv (Di .i64) _ t0 t1 h)
theorem w_journal_Check (n d : Nat) (t0 : List AV) (h : AHeap) : world n (d + 1) 16 [.agg t0] h = gcR h (journal_Check (world n d) n t0 h) :=
 Eq.trans (b := gcR h (fn1 Da (journal_Check (world n d) n) [.agg t0] h)) (by kernel_rfl) (congrArg (gcR h) (fn1_eq Da _ t0 h))
theorem w_journal_numbers (n d : Nat) (t0 : List AV) (h : AHeap) : world n (d + 1) 40 [.agg t0] h = gcR h (journal_numbers (world n d) n t0 h) :=
 Eq.trans (b := gcR h (fn1 Da (journal_numbers (world n d) n) [.agg t0] h)) (by kernel_rfl) (congrArg (gcR h) (fn1_eq Da _ t0 h))
theorem w_journal_Journal_Next (n d : Nat) (t0 : AV) (t1 : Int) (h : AHeap) : world n (d + 1) 10 [t0, .int .i64 t1] h = journal_Journal_Next (world n d) n t0 t1 h :=
 Eq.trans (b := fn2 Dv (Di .i64) (journal_Journal_Next (world n d) n) [t0, .int .i64 t1] h) (by kernel_rfl) (fn2_eq Dv (Di .i64) _ t0 t1 h)
theorem w_journal_Journal_Add (n d : Nat) (t0 : AV) (t1 : List AV) (h : AHeap) : world n (d + 1) 11 [t0, .agg t1] h = journal_Journal_Add (world n d) n t0 t1 h :=
 Eq.trans (b := fn2 Dv Da (journal_Journal_Add (world n d) n) [t0, .agg t1] h) (by kernel_rfl) (fn2_eq Dv Da _ t0 t1 h)
theorem w_journal_Journal_refuses (n d : Nat) (t0 : AV) (t1 : List AV) (h : AHeap) : world n (d + 1) 35 [t0, .agg t1] h = journal_Journal_refuses (world n d) n t0 t1 h :=
 Eq.trans (b := fn2 Dv Da (journal_Journal_refuses (world n d) n) [t0, .agg t1] h) (by kernel_rfl) (fn2_eq Dv Da _ t0 t1 h)
theorem w_journal_Journal_put (n d : Nat) (t0 : AV) (t1 : List AV) (h : AHeap) : world n (d + 1) 37 [t0, .agg t1] h = journal_Journal_put (world n d) n t0 t1 h :=
 Eq.trans (b := fn2 Dv Da (journal_Journal_put (world n d) n) [t0, .agg t1] h) (by kernel_rfl) (fn2_eq Dv Da _ t0 t1 h)
theorem w_journal_Journal_All (n d : Nat) (t0 : AV) (h : AHeap) : world n (d + 1) 39 [t0] h = journal_Journal_All (world n d) n t0 h :=
 Eq.trans (b := fn1 Dv (journal_Journal_All (world n d) n) [t0] h) (by kernel_rfl) (fn1_eq Dv _ t0 h)
theorem w_journal_framed (n d : Nat) (t0 : List AV) (h : AHeap) : world n (d + 1) 36 [.agg t0] h = gcR h (journal_framed (world n d) n t0 h) :=
 Eq.trans (b := gcR h (fn1 Da (journal_framed (world n d) n) [.agg t0] h)) (by kernel_rfl) (congrArg (gcR h) (fn1_eq Da _ t0 h))
theorem w_journal_sendOf (n d : Nat) (t0 : Bytes) (h : AHeap) : world n (d + 1) 55 [strA t0] h = gcR h (journal_sendOf (world n d) n t0 h) :=
 Eq.trans (b := gcR h (fn1 Ds (journal_sendOf (world n d) n) [strA t0] h)) (by kernel_rfl) (congrArg (gcR h) (fn1_eq Ds _ t0 h))
theorem w_message_Above (n d : Nat) (t0 : List AV) (t1 : List AV) (h : AHeap) : world n (d + 1) 53 [.agg t0, .agg t1] h = gcR h (message_Above (world n d) n t0 t1 h) :=
 Eq.trans (b := gcR h (fn2 Da Da (message_Above (world n d) n) [.agg t0, .agg t1] h)) (by kernel_rfl) (congrArg (gcR h) (fn2_eq Da Da _ t0 t1 h))
end Go.Proofs.Ytbhblbffdmiepaa
namespace Go.Proofs.Ytbhblbffdmiepaa.Abs
noncomputable section
open Go.RowKit
def Wp (x : R) (Q : ARes → AHeap → Prop) : Prop := ∃ r h, x = some (r, h) ∧ Q r h
section
variable {α β : Type} {Q Q' : ARes → AHeap → Prop} {r : ARes} {h h1 : AHeap} {v : AV} {x y : R} {b : Bool}
theorem Wp.ret (hq : Q r h) : Wp (some (r, h)) Q := ⟨r, h, rfl, hq⟩
theorem Wp.of (e : x = some (r, h)) (hq : Q r h) : Wp x Q := ⟨r, h, e, hq⟩
theorem Wp.mono (k : Wp x Q) (hq : ∀ r h, Q r h → Q' r h) : Wp x Q' := by
 obtain ⟨r, h, e, q⟩ := k
 exact ⟨r, h, e, hq r h q⟩
theorem Wp.eq (k : Wp x fun r' h' => r' = r ∧ h' = h) : x = some (r, h) := by
 obtain ⟨_, _, e, rfl, rfl⟩ := k
 exact e
theorem Wp.ex {Q : AHeap → Prop} (k : Wp x fun r' h' => r' = r ∧ Q h') : ∃ h', x = some (r, h') ∧ Q h' := by
 obtain ⟨_, h', e, rfl, q⟩ := k
 exact ⟨h', e, q⟩
theorem Wp.lett {v : α} {k : α → R} (hk : Wp (k v) Q) : Wp (lett v k) Q := hk
theorem Wp.lettw {v : Int} {k : Int → R} (h1 : -9223372036854775808 ≤ v) (h2 : v < 9223372036854775808) (hk : Wp (k v) Q) : Wp (Abs.lett (IntKind.i64.wrap v) k) Q := by
 rw [wrap_i64 h1 h2]
 exact hk
theorem Wp.lettu32 {v : Int} {k : Int → R} (h1 : 0 ≤ v) (h2 : v < 4294967296) (hk : Wp (k v) Q) : Wp (Abs.lett (IntKind.u32.wrap v) k) Q := by
 rw [wrap_u32_mod, Int.emod_eq_of_lt h1 h2]
 exact hk
theorem Wp.lettu64 {v : Int} {k : Int → R} (h1 : 0 ≤ v) (h2 : v < 18446744073709551616) (hk : Wp (k v) Q) : Wp (Abs.lett (IntKind.u64.wrap v) k) Q := by
 rw [wrap_u64_mod, Int.emod_eq_of_lt h1 h2]
 exact hk
theorem Wp.join0 {F : AHeap → R} {G : (AHeap → R) → R} (hk : ∀ k, k = F → Wp (G k) Q) : Wp (Abs.lett F G) Q := hk F rfl
theorem Wp.join1 {F : α → AHeap → R} {G : (α → AHeap → R) → R} (hk : ∀ k, k = F → Wp (G k) Q) : Wp (Abs.lett F G) Q := hk F rfl
theorem Wp.go0 {k F : AHeap → R} (e : k = F) (hk : Wp (F h) Q) : Wp (k h) Q := by rw [e]; exact hk
theorem Wp.go1 {k F : α → AHeap → R} {a : α} (e : k = F) (hk : Wp (F a h) Q) : Wp (k a h) Q := by rw [e]; exact hk
theorem Wp.obind {o : Option α} {a : α} {k : α → R} (e : o = some a) (hk : Wp (k a) Q) : Wp (Abs.obind o k) Q := by rw [e]; exact hk
theorem Wp.ift (e : b = true) (hk : Wp x Q) : Wp (ifB b x y) Q := by rw [e]; exact hk
theorem Wp.iff (e : b = false) (hk : Wp y Q) : Wp (ifB b x y) Q := by rw [e]; exact hk
theorem Wp.outK {o : OutT} {k : AV → AHeap → R} (e : o = some (.val v, h1)) (hk : Wp (k v h1) Q) : Wp (Abs.outK o k) Q := by rw [e]; exact hk
theorem Wp.effK {o : OutT} {k : AHeap → R} (e : o = some (.skip, h1)) (hk : Wp (k h1) Q) : Wp (Abs.effK o k) Q := by rw [e]; exact hk
theorem Wp.callN {k : AV → AHeap → R} (e : x = some (.ret v, h1)) (hk : Wp (k v h1) Q) : Wp (Abs.callN x k) Q := by rw [e]; exact hk
theorem Wp.callK {k : AV → AHeap → R} (e : x = some (.ret v, h1)) (hk : Wp (k v h1) Q) : Wp (Abs.callK x k) Q := by rw [e]; exact hk
theorem Wp.chk (e : b = true) (hk : Wp x Q) : Wp (Abs.chk b x) Q := by rw [e]; exact hk
theorem Wp.gc (hx : Wp x fun r h' => Above h h' ∧ r.val.scal = true ∧ Q r h) : Wp (gcR h x) Q := by
 obtain ⟨r, h', e, ha, hv, q⟩ := hx
 rw [e, gcR_scal ha hv]
 exact ⟨_, _, rfl, q⟩
theorem Wp.gc' (hx : Wp x fun r h' => Q r h' ∧ (Above h h' → Q r h)) : Wp (gcR h x) Q := by
 obtain ⟨r, h', e, q1, q2⟩ := hx
 rw [e]
 unfold gcR
 split
 ·rename_i e2
  simp only [Option.some.injEq, Prod.mk.injEq] at e2
  obtain ⟨rfl, rfl⟩ := e2
  split
  ·rename_i hc
   exact ⟨_, _, rfl, q2 hc.1⟩
  ·exact ⟨_, _, rfl, q1⟩
 ·rename_i e2
  cases e2
theorem Wp.gcn (hx : Wp x fun r h' => r.val.lo h.next = false ∧ Q r h') : Wp (gcR h x) Q := by
 obtain ⟨r, h', e, hv, q⟩ := hx
 rw [e, gcR_some hv]
 exact ⟨_, _, rfl, q⟩
end
theorem sliceS_int {l : Bytes} {a b : Int} (h0 : 0 ≤ a) (h1 : a ≤ b) (h2 : b ≤ (l.length : Int)) : sliceS l a b = some ((l.drop a.toNat).take (b.toNat - a.toNat)) := by
 obtain ⟨n, rfl⟩ := Int.eq_ofNat_of_zero_le h0
 obtain ⟨m, rfl⟩ := Int.eq_ofNat_of_zero_le (Int.le_trans h0 h1)
 exact sliceS_nat (by omega) (by omega)
theorem addS_val {a b : Bytes} (h : a.length + b.length ≤ 1000000000) : addS a b = some (a ++ b) := by
 unfold addS
 rw [Nat.ble_eq_true_of_le h]
theorem nilC_ptr (b o : Nat) : nilC (.ptr b o) = some (.ptr b o) := rfl
theorem fldP_ptr (f b o : Nat) : fldP f (.ptr b o) = some (.ptr b (o + f)) := rfl
theorem newP_eq (h : AHeap) : newP h = .ptr h.next 0 := rfl
theorem bne_t {a b : Int} (h : a ≠ b) : (a != b) = true := by simp [h]
theorem bne_f {a b : Int} (h : a = b) : (a != b) = false := by simp [h]
theorem beq_t {a b : Int} (h : a = b) : (a == b) = true := by simp [h]
theorem beq_f {a b : Int} (h : a ≠ b) : (a == b) = false := by simp [h]
section
variable {Q : ARes → AHeap → Prop} {h : AHeap} {b o n : Nat} {e : TypeId} {l vs : List AV} {v : AV} {K : AHeap → R}
theorem Wp.st1 (k : RowH h b e l) (ho : o < l.length) (h1 : v.one = true) (hk : ∀ h', RowH h' b e (l.set o v) → Tch [b] h h' → h'.next = h.next → Wp (K h') Q) : Wp (Abs.obind (stRow h 1 [v] (.ptr b o)) K) Q := by
 obtain ⟨h', e1, e2, e3, e4, e5⟩ := k.st1 ho h1
 exact Wp.obind e1 (hk h' e2 (tch_of e3 e4 e5 (.inl (by simp))) e3)
theorem Wp.stN (k : RowH h b e l) (hn : vs.length = n) (ho : o + n ≤ l.length) (h1 : vs.all AV.one = true) (hk : ∀ h', RowH h' b e (laid l o vs) → Tch [b] h h' → h'.next = h.next → Wp (K h') Q) : Wp (Abs.obind (stRow h n vs (.ptr b o)) K) Q := by
 obtain ⟨h', e1, e2, e3, e4, e5⟩ := k.st hn ho h1
 exact Wp.obind e1 (hk h' e2 (tch_of e3 e4 e5 (.inl (by simp))) e3)
theorem Wp.stAll (k : RowH h b e l) (hn : vs.length = n) (hl : l.length = n) (h1 : vs.all AV.one = true) (hk : ∀ h', RowH h' b e vs → Tch [b] h h' → h'.next = h.next → Wp (K h') Q) : Wp (Abs.obind (stRow h n vs (.ptr b 0)) K) Q := by
 obtain ⟨h', e1, e2, e3, e4, e5⟩ := k.stAll hn hl h1
 exact Wp.obind e1 (hk h' e2 (tch_of e3 e4 e5 (.inl (by simp))) e3)
end
section
variable {P : Program} {e sz lo : Nat} {h h' : AHeap} {v x : AV} {rows : List (List AV)} {r : List AV} {t u : TypeId} {S : List Nat}
end
end
end Go.Proofs.Ytbhblbffdmiepaa.Abs
namespace Go.Proofs.Ytbhblbffdmiepaa.Abs
noncomputable section
open Go.RowKit
section
variable (P : Program) (w0 : Base) (m0 : Map) (N : Nat) (rd : Option Nat) (n : Nat)
def WR (c : Code) (Q : Exit → Act → World → Prop) (l : Fr) (ds : DefT) (h : AHeap) : Prop := Go w0 m0 N (c.wpIn (FW rd) n P Q) l ds h
def WLR (ops : Array Oper) (i : Nat) (Q : Exit → Act → World → Prop) (l : Fr) (ds : DefT) (h : AHeap) : Prop := Go w0 m0 N (wpListIn (FW rd) n P ops Q (ops.toList.drop i)) l ds h
def InLR (c : Code) (Q : Exit → Act → World → Prop) (act : Act) (w : World) : Prop := ∀ (b : Frame) (k : List Item) (cs : List Frame), b.roundOf = (FW rd).round →
 ∃ e a' w', Q e a' w' ∧ ArrivesIn (Machine.fenced P (FW rd)) P (lone (b.atR act (.code c :: .inLoop c :: k)) cs w) b k cs e a' w'
end
section
variable {P : Program} {w0 : Base} {m0 : Map} {N : Nat} {rd : Option Nat} {n : Nat} {l l' : Fr} {ds : DefT} {h h' : AHeap} {Q : Exit → Act → World → Prop} {K : Act → World → Prop} {both : BothF}
theorem WR.weaken {c : Code} (hs : l.sub l') (hk : WR P w0 m0 N rd n c Q l' ds h) : WR P w0 m0 N rd n c Q l ds h := Go.weaken hs hk
theorem WLR.weaken {ops : Array Oper} {i : Nat} (hs : l.sub l') (hk : WLR P w0 m0 N rd n ops i Q l' ds h) : WLR P w0 m0 N rd n ops i Q l ds h := Go.weaken hs hk
theorem WR.skip {c : Code} (hc : Code.kind c = 0) (hk : Go w0 m0 N (Q .normal) l ds h) : WR P w0 m0 N rd n c Q l ds h := by
 cases c <;> first | (exact fun m act w he ha F => wpIn_skip (hk m act w he ha F)) | (simp [Code.kind] at hc; done) | (rename_i d; cases d <;> simp [Code.kind] at hc)
theorem WR.seq {c : Code} (hc : Code.kind c = 1) (hk : WR P w0 m0 N rd n (Code.p1 c) (Exit.then ((Code.p2 c).wpIn (FW rd) n P Q) Q) l ds h) : WR P w0 m0 N rd n c Q l ds h := by
 cases c <;> first | (exact fun m act w he ha F => wpIn_seq (hk m act w he ha F)) | (simp [Code.kind] at hc; done) | (rename_i d; cases d <;> simp [Code.kind] at hc)
theorem WR.cond_true {c : Code} (hc : Code.kind c = 2) (hv : l.eval (Code.opd c) = some (.bool true)) (hk : WR P w0 m0 N rd n (Code.p1 c) Q l ds h) : WR P w0 m0 N rd n c Q l ds h := by
 cases c <;> first | (exact fun m act w he ha F => wpIn_cond_true (rel_bool (eval_ok (a := ⟨l.tree, ds⟩) (fun t _ => ha.tmps t) _ (by rw [Fr.eval_tree]; exact hv))) (hk m act w he ha F)) | (simp [Code.kind] at hc; done) | (rename_i d; cases d <;> simp [Code.kind] at hc)
theorem WR.cond_false {c : Code} (hc : Code.kind c = 2) (hv : l.eval (Code.opd c) = some (.bool false)) (hk : WR P w0 m0 N rd n (Code.p2 c) Q l ds h) : WR P w0 m0 N rd n c Q l ds h := by
 cases c <;> first | (exact fun m act w he ha F => wpIn_cond_false (rel_bool (eval_ok (a := ⟨l.tree, ds⟩) (fun t _ => ha.tmps t) _ (by rw [Fr.eval_tree]; exact hv))) (hk m act w he ha F)) | (simp [Code.kind] at hc; done) | (rename_i d; cases d <;> simp [Code.kind] at hc)
theorem WR.block {c : Code} (hc : Code.kind c = 3) (hk : WR P w0 m0 N rd n (Code.p1 c) (Exit.inBlock (Code.num c) Q) l ds h) : WR P w0 m0 N rd n c Q l ds h := by
 cases c <;> first | (exact fun m act w he ha F => wpIn_block (hk m act w he ha F)) | (simp [Code.kind] at hc; done) | (rename_i d; cases d <;> simp [Code.kind] at hc)
theorem WR.exit {c : Code} (hc : Code.kind c = 5) (hk : Go w0 m0 N (Q (.exit (Code.num c))) l ds h) : WR P w0 m0 N rd n c Q l ds h := by
 cases c <;> first | (exact fun m act w he ha F => wpIn_exit (hk m act w he ha F)) | (simp [Code.kind] at hc; done) | (rename_i d; cases d <;> simp [Code.kind] at hc)
theorem WR.ret {c : Code} (hc : Code.kind c = 6) (hk : Go w0 m0 N (Q .ret) l ds h) : WR P w0 m0 N rd n c Q l ds h := by
 cases c <;> first | (exact fun m act w he ha F => wpIn_ret (hk m act w he ha F)) | (simp [Code.kind] at hc; done) | (rename_i d; cases d <;> simp [Code.kind] at hc)
theorem InLR.round {c : Code} {act : Act} {w : World} (hk : c.wpIn (FW rd) n P (Exit.then (InLR P rd c Q) Q) act w) : InLR P rd c Q act w := by
 intro b k cs hro
 have hb : (FW rd).fn b.fn := trivial
 have hr : (FW rd).room (cs.length + 1 + n) := room_wide _
 obtain ⟨e1, a1, w1, hq, harr⟩ := hk b (.inLoop c :: k) cs hro hb hr
 cases e1 with
 | normal =>
  obtain ⟨e3, a3, w3, hq3, harr3⟩ := hq b k cs hro
  exact ⟨e3, a3, w3, hq3, .of_steps (StepsIn.trans harr (.one (fenced_calm hb hr rfl) stepR_inLoop)) harr3⟩
 | exit id => exact ⟨_, a1, w1, hq, .pass (x := .inLoop c) rfl (fun _ _ => .inl (by simp)) harr⟩
 | goto l => exact ⟨_, a1, w1, hq, .pass (x := .inLoop c) rfl (fun _ _ => .inl (by simp)) harr⟩
 | ret => exact ⟨_, a1, w1, hq, .pass (x := .inLoop c) rfl (fun _ _ => .inl (by simp)) harr⟩
 | panic ch => exact ⟨_, a1, w1, hq, .pass (x := .inLoop c) rfl (fun _ _ => .inl (by simp)) harr⟩
 | outgrown => exact ⟨_, a1, w1, hq, .pass (x := .inLoop c) rfl (fun _ _ => .inl (by simp)) harr⟩
theorem WR.loop {c : Code} (hc : Code.kind c = 4) (hk : Go w0 m0 N (InLR P rd (Code.p1 c) Q) l ds h) : WR P w0 m0 N rd n c Q l ds h := by
 obtain ⟨x, rfl⟩ := kind_loop hc
 intro m act w he ha F b k cs hro hb hr
 obtain ⟨e, a', w', q, r⟩ := hk m act w he ha F b k cs hro
 exact ⟨e, a', w', q, .of_steps (.one (fenced_calm hb hr rfl) stepR_loop) r⟩
theorem Go.roundR {c : Code} (hk : WR P w0 m0 N rd n c (Exit.then (InLR P rd c Q) Q) l ds h) : Go w0 m0 N (InLR P rd c Q) l ds h := fun m act w he ha F => InLR.round (n := n) (hk m act w he ha F)
def noneBoth : BothF := fun _ _ _ _ => none
theorem noneBoth_ok : BothOK P w0 noneBoth := ⟨(fun _ _ _ _ _ h => nomatch h), (fun _ _ _ _ _ h => nomatch h)⟩
def isDefer (o : Oper) : Bool := match o.op with
 | .defer _ => true
 | _ => false
def dstR (N : Nat) (ops : Array Oper) (i : Nat) : Option (Option Nat) := match ops[i]? with
 | some o => match okDst N o && !isDefer o with
  | true => some o.dst
  | false => none
 | none => none
theorem dstR_ok {ops : Array Oper} {i : Nat} {d : Option Nat} (hd : dstR N ops i = some d) : ∃ o, ops[i]? = some o ∧ okDst N o = true ∧ (∀ c, o.op ≠ .defer c) ∧ o.dst = d := by
 unfold dstR at hd
 split at hd
 ·rename_i o ho
  split at hd
  ·rename_i hk
   rw [Bool.and_eq_true] at hk
   simp only [Option.some.injEq] at hd
   refine ⟨o, ho, hk.1, fun c e => ?_, hd⟩
   have := hk.2
   unfold isDefer at this
   rw [e] at this
   cases this
  ·cases hd
 ·cases hd
theorem stepR_ok1 (hc : BothOK P w0 both) {ops : Array Oper} {o : Oper} {ol : List Oper} {a : AAct} {st : AStep} {m : Map} {act : Act} {H : AHeap} {w : World} (ha : RelAct m N a act) (F : Fits w0 m H w) (ho : okDst N o = true) (hnd : ∀ c, o.op ≠ .defer c) (hst : stepR P both ops o a H = some st)
  (hgo : ∀ (a' : AAct) (h' : AHeap), st = .go a' h' → ∀ (m' : Map) (act' : Act) (w' : World), Ext m m' → RelAct m' N a' act' → Fits w0 m' h' w' → wpListIn (FW rd) n P ops Q ol act' w')
  (hpn : ∀ (v : AV) (h' : AHeap), st = .panic v h' → ∀ (m' : Map) (w' : World) (v' : Value), Ext m m' → Fits w0 m' h' w' → Rel m' v v' → Q (.panic [{ v := v', recovered := false }]) act w') :
  wpListIn (FW rd) n P ops Q (o :: ol) act w := by
 have hd' : ∀ t, o.dst = some t → t < N := by
  intro t ht
  simp only [okDst, ht] at ho
  exact Nat.le_of_ble_eq_true ho
 rw [wpListIn]
 unfold stepR at hst
 split at hst
 ·rename_i hw
  rw [wanted_ok (fun t _ => ha.tmps t) hw]
  simp only [if_true]
  cases hop : opA P a.eval o H with
  | none => rw [hop] at hst; cases hst
  | some p =>
   obtain ⟨nx, H1⟩ := p
   rw [hop] at hst
   refine ⟨fun _ _ => trivial, ?_⟩
   rw [Oper.semAt_eq _ _ _ hnd]
   refine uponR_ok hc (opA_ok F o (fun x _ v hv => eval_ok (fun t _ => ha.tmps t) v hv) hop) hst (fun a' h' e' m' w' v v' he F' hv ea => ?_) (fun v h' e' m' w' v' he F' hv => ?_)
   ·subst e' ea
    exact hgo _ _ rfl m' _ w' he ((ha.mono he.le).put1 hd' hv) F'
   ·subst e'
    exact hpn _ _ rfl m' w' v' he F' hv
 ·rename_i hw
  rw [wanted_ok (fun t _ => ha.tmps t) hw]
  simp only [Bool.false_eq_true, if_false]
  simp only [stepPut, Option.some.injEq] at hst
  subst hst
  refine ⟨fun _ _ => trivial, hgo _ _ rfl m _ w (Ext.refl m) (ha.put1 hd' (.tup .nil)) F⟩
 ·cases hst
theorem WR.region {c : Code} (hc : Code.kind c = 7) (hk : WLR P w0 m0 N rd n (Code.ops c) 0 Q l ds h) : WR P w0 m0 N rd n c Q l ds h := by
 cases c with
 | region id ops d => cases d with
  | false => exact fun m act w he ha F => wpIn_region_list (hk m act w he ha F)
  | true => simp [Code.kind] at hc
 | _ => simp [Code.kind] at hc
theorem WLR.nil {ops : Array Oper} {i : Nat} (hi : Nat.beq ops.size i = true) (hk : Go w0 m0 N (Q .normal) l ds h) : WLR P w0 m0 N rd n ops i Q l ds h := by
 intro m act w he ha F
 have : ops.toList.drop i = [] := by
  have := Nat.eq_of_beq_eq_true hi
  simp [← this]
 rw [this]
 exact hk m act w he ha F
theorem WLR.step {ops : Array Oper} {i : Nat} {o : Oper} (ho : ops[i]? = some o) (hd : okDst N o = true) (hnd : ∀ c, o.op ≠ .defer c) (hc : BothOK P w0 both) {d : Option Nat} {v : AV} {ds' : DefT}
  (hst : stepR P both ops o ⟨l.tree, ds⟩ h = some (.go ⟨(l.put d v).tree, ds'⟩ h')) (hk : WLR P w0 m0 N rd n ops (i + 1) Q (l.put d v) ds' h') : WLR P w0 m0 N rd n ops i Q l ds h := by
 intro m act w he ha F
 have hl : i < ops.toList.length := by
  rcases Array.getElem?_eq_some_iff.1 ho with ⟨h1, _⟩
  simpa using h1
 have hdrop : ops.toList.drop i = o :: ops.toList.drop (i + 1) := by
  rw [List.drop_eq_getElem_cons hl]
  congr 1
  rcases Array.getElem?_eq_some_iff.1 ho with ⟨h1, h2⟩
  simpa using h2
 rw [hdrop]
 refine stepR_ok1 hc ha F hd hnd hst (fun a' h2 e m' act' w' he' ha' F' => ?_) (fun v h2 e => by cases e)
 simp only [AStep.go.injEq] at e
 obtain ⟨rfl, rfl⟩ := e
 exact hk m' act' w' (he.trans he') ha' F'
theorem WLR.val {ops : Array Oper} {i : Nat} {d : Option Nat} {v : AV} (hd : dstR N ops i = some d) (hw : wantAt ops l.get i = some true) (hop : opAt P l.eval ops i h = some (.val v, h'))
  (hk : WLR P w0 m0 N rd n ops (i + 1) Q (l.put d v) ds h') : WLR P w0 m0 N rd n ops i Q l ds h := by
 obtain ⟨o, ho, hok, hnd, rfl⟩ := dstR_ok hd
 refine WLR.step (v := v) (d := o.dst) (ds' := ds) ho hok hnd noneBoth_ok ?_ hk
 have hw : wantedT ops l.get o.guard = some true := by simpa [wantAt, ho] using hw
 have hop : opA P l.eval o h = some (.val v, h') := by simpa [opAt, ho] using hop
 simp only [stepR, Fr.fget_tree, hw, Fr.eval_tree, hop, stepOutR, stepPut, Fr.put_tree]
theorem WLR.eff {ops : Array Oper} {i : Nat} (hd : dstR N ops i = some none) (hw : wantAt ops l.get i = some true) (hop : opAt P l.eval ops i h = some (.skip, h'))
  (hk : WLR P w0 m0 N rd n ops (i + 1) Q l ds h') : WLR P w0 m0 N rd n ops i Q l ds h := by
 obtain ⟨o, ho, hok, hnd, hdn⟩ := dstR_ok hd
 refine WLR.step (v := .tup []) (d := none) (ds' := ds) ho hok hnd noneBoth_ok ?_ hk
 have hw : wantedT ops l.get o.guard = some true := by simpa [wantAt, ho] using hw
 have hop : opA P l.eval o h = some (.skip, h') := by simpa [opAt, ho] using hop
 simp only [stepR, Fr.fget_tree, hw, Fr.eval_tree, hop, stepOutR, stepPut, Fr.put_tree, hdn]
theorem WLR.not {ops : Array Oper} {i : Nat} {d : Option Nat} (hd : dstR N ops i = some d) (hw : wantAt ops l.get i = some false)
  (hk : WLR P w0 m0 N rd n ops (i + 1) Q (l.put d (.tup [])) ds h) : WLR P w0 m0 N rd n ops i Q l ds h := by
 obtain ⟨o, ho, hok, hnd, rfl⟩ := dstR_ok hd
 refine WLR.step (v := .tup []) (d := o.dst) (ds' := ds) ho hok hnd noneBoth_ok ?_ hk
 have hw : wantedT ops l.get o.guard = some false := by simpa [wantAt, ho] using hw
 simp only [stepR, Fr.fget_tree, hw, stepPut, Fr.put_tree]
theorem WLR.callB (hc : BothOK P w0 both) {ops : Array Oper} {i : Nat} {d : Option Nat} {f : FuncId} {args : List AV} {v : AV} {h1 : AHeap} (hd : dstR N ops i = some d) (hw : wantAt ops l.get i = some true) (hop : opAt P l.eval ops i h = some (.call f args, h1))
  (hcall : both false f args h1 = some (.ret v, h')) (hk : WLR P w0 m0 N rd n ops (i + 1) Q (l.put d v) ds h') : WLR P w0 m0 N rd n ops i Q l ds h := by
 obtain ⟨o, ho, hok, hnd, rfl⟩ := dstR_ok hd
 refine WLR.step (v := v) (d := o.dst) (ds' := ds) ho hok hnd hc ?_ hk
 have hw : wantedT ops l.get o.guard = some true := by simpa [wantAt, ho] using hw
 have hop : opA P l.eval o h = some (.call f args, h1) := by simpa [opAt, ho] using hop
 simp only [stepR, Fr.fget_tree, hw, Fr.eval_tree, hop, stepOutR, hcall, stepRes, stepPut, Fr.put_tree]
def noRnd : Nat → List AV → AHeap → Option (ARes × AHeap) := fun _ _ _ => none
def mkBoth (call : CallF) (rnd : Nat → List AV → AHeap → Option (ARes × AHeap)) : BothF := fun k f args h => match k with
 | false => call f args h
 | true => rnd f args h
theorem both_of_call {call : CallF} (hc : CallOK P w0 call) : BothOK P w0 (mkBoth call noRnd) := ⟨hc, (fun _ _ _ _ _ h => nomatch h)⟩
theorem WLR.call {call : CallF} (hc : CallOK P w0 call) {ops : Array Oper} {i : Nat} {d : Option Nat} {f : FuncId} {args : List AV} {v : AV} {h1 : AHeap} (hd : dstR N ops i = some d) (hw : wantAt ops l.get i = some true) (hop : opAt P l.eval ops i h = some (.call f args, h1))
  (hcall : call f args h1 = some (.ret v, h')) (hk : WLR P w0 m0 N rd n ops (i + 1) Q (l.put d v) ds h') : WLR P w0 m0 N rd n ops i Q l ds h := WLR.callB (both_of_call hc) hd hw hop hcall hk
theorem WLR.round (hc : BothOK P w0 both) {ops : Array Oper} {i : Nat} {d : Option Nat} {b : Nat} {args : List AV} {v : AV} {h1 : AHeap} (hd : dstR N ops i = some d) (hw : wantAt ops l.get i = some true) (hop : opAt P l.eval ops i h = some (.round b args, h1))
  (hcall : both true b args h1 = some (.ret v, h')) (hk : WLR P w0 m0 N rd n ops (i + 1) Q (l.put d v) ds h') : WLR P w0 m0 N rd n ops i Q l ds h := by
 obtain ⟨o, ho, hok, hnd, rfl⟩ := dstR_ok hd
 refine WLR.step (v := v) (d := o.dst) (ds' := ds) ho hok hnd hc ?_ hk
 have hw : wantedT ops l.get o.guard = some true := by simpa [wantAt, ho] using hw
 have hop : opA P l.eval o h = some (.round b args, h1) := by simpa [opAt, ho] using hop
 simp only [stepR, Fr.fget_tree, hw, Fr.eval_tree, hop, stepOutR, hcall, stepRes, stepPut, Fr.put_tree]
theorem WR.range (hc : BothOK P w0 both) {f : Operand} {ps : Array Tmp} {x y : Code} {e : AExit} {l' : Fr} {ds' : DefT} (hr : rangeR P both none N (l.eval f) ps x y ⟨l.tree, ds⟩ h = some (e, ⟨l'.tree, ds'⟩, h'))
  (hq : ∀ (m : Map) (act : Act) (w : World) (e' : Exit), Ext m0 m → RelExit m e e' → RelAct m N ⟨l'.tree, ds'⟩ act → Fits w0 m h' w → Q e' act w) : WR P w0 m0 N none n (.rangeFunc f ps x y) Q l ds h := by
 intro m act w he ha F
 have hev : (⟨l.tree, ds⟩ : AAct).eval f = l.eval f := by rw [Fr.eval_tree]
 refine wpIn_mono (rangeR_ok (rb := none) (f := f) hc ⟨l.tree, ds⟩ h e _ h' (by
  show rangeR P both none N ((⟨l.tree, ds⟩ : AAct).eval f) ps x y ⟨l.tree, ds⟩ h = _
  rw [hev]
  exact hr) none n m act w trivial ha F) ?_
 rintro e' act2 w2 ⟨m2, hx, ha2, F2, hex⟩
 exact hq m2 act2 w2 e' (he.trans hx) hex ha2 F2
end
section
variable {P : Program} {m : Map} {w0 : Base} {w : World} {H H' : AHeap} {both : BothF} {rd rb : Option Nat} {N lf : Nat}
end
def BothAll (P : Program) (both : BothF) : Prop := ∀ w0, BothOK P w0 both
theorem BothAll.says {P : Program} {both : BothF} (h : BothAll P both) : SaysAll P (both false) := SaysAll.of fun w0 => (h w0).call
theorem BothAll.none {P : Program} : BothAll P noneBoth := fun _ => noneBoth_ok
theorem mkBoth_ok {P : Program} {call : CallF} {rnd : Nat → List AV → AHeap → Option (ARes × AHeap)} (hc : SaysAll P call) (hr : ∀ w0, RoundOK P w0 rnd) : BothAll P (mkBoth call rnd) := fun w0 => ⟨hc.ok w0, hr w0⟩
def worldB (cf : BothF → CallF) (rf : BothF → Nat → List AV → AHeap → Option (ARes × AHeap)) : Nat → BothF
 | 0 => noneBoth
 | d + 1 => mkBoth (cf (worldB cf rf d)) (rf (worldB cf rf d))
theorem worldB_ok {P : Program} {cf : BothF → CallF} {rf : BothF → Nat → List AV → AHeap → Option (ARes × AHeap)} (hc : ∀ both, BothAll P both → SaysAll P (cf both)) (hr : ∀ both, BothAll P both → ∀ w0, RoundOK P w0 (rf both)) : ∀ d, BothAll P (worldB cf rf d)
 | 0 => BothAll.none
 | d + 1 => mkBoth_ok (hc _ (worldB_ok hc hr d)) (hr _ (worldB_ok hc hr d))
section
variable {P : Program} {w0 : Base} {m0 : Map} {N : Nat} {rd : Option Nat} {n : Nat} {l l' : Fr} {ds : DefT} {h h' : AHeap} {Q : Exit → Act → World → Prop} {K : Act → World → Prop} {both : BothF} {r : ARes}
abbrev FinM (P : Program) (fn : Func) (w0 : Base) (m0 : Map) (r : ARes) (h' : AHeap) : Exit → Act → World → Prop := bodyPostM Fence.wide 0 P fn (RetOK w0 m0 h' r)
theorem Go.leaveM {fn : Func} (hr : marksR P fn ⟨l.tree, ds⟩ ds h = some (r, h')) : Go w0 m0 N (FinM P fn w0 m0 r h' .ret) l ds h := fun m _ w he ha F =>
 LeavesInM.mono (fun _ _ hh => hh.ext he) _ _ _ (marksR_all _ _ hr m _ ha.defers) (marksR_ok _ h hr m _ w ha.tmps ha.defers F)
theorem says_ofM {f : FuncId} {fn : Func} {args : List AV} (hf : P.funcs[f]? = some fn) {c : Code} (hb : fn.body = some c) (hlen : Nat.ble args.length fn.ntmps = true)
  (hw : ∀ w0 m0, WR P w0 m0 fn.ntmps none 0 c (FinM P fn w0 m0 r h') (argsFr 0 args) [] h) : Says P f args h r h' := by
 intro w0 m w args' ha F
 have hlen := Nat.le_of_ble_eq_true hlen
 have hl := ha.length
 have hra : RelAct m fn.ntmps ⟨(argsFr 0 args).tree, []⟩ { tmps := (⟨args'⟩ : Array Value) ++ Array.replicate (fn.ntmps - (⟨args'⟩ : Array Value).size) undef, defers := [] } := {
  size := by simp; omega
  tmps := fun t v hv => by
   have hv : (argsFr 0 args).tree.get t = some v := hv
   rw [Fr.get_tree] at hv
   obtain ⟨_, hv⟩ := argsFr_get _ _ _ _ hv
   rw [Nat.sub_zero] at hv
   obtain ⟨y, hy, hr⟩ := ha.get t v hv
   have ht : t < args'.length := (List.getElem?_eq_some_iff.1 hy).1
   refine ⟨y, ?_, hr⟩
   simp only
   rw [Array.getElem?_append_left (by simpa using ht)]
   simpa using hy
  defers := .nil }
 exact callsIn_wide.1 (callsIn_of_wp_marks (n := 0) hf hb trivial (hw w0 m m _ w (Ext.refl m) hra F))
theorem RelAct.ofTree {m : Map} {act : Act} {t : T AV} (hs : ∀ i v, l.get i = some v → t.get i = some v) (hr : RelAct m N ⟨t, ds⟩ act) : RelAct m N ⟨l.tree, ds⟩ act where
 size := hr.size
 tmps i := fun v hv => hr.tmps i v (by
  have hv : l.tree.get i = some v := hv
  rw [Fr.get_tree] at hv
  exact hs i v hv)
 defers := hr.defers
theorem codeROK_of {c : Code} {f : AAct → AHeap → CodeT} (hf : ∀ (t : T AV) (ds : DefT) (h : AHeap) (e : AExit) (a' : AAct) (h' : AHeap), f ⟨t, ds⟩ h = some (e, a', h') → ∃ l : Fr, (∀ i v, l.get i = some v → t.get i = some v) ∧ ∀ rd n m0, WR P w0 m0 N rd n c (fun e' act w => Post w0 m0 N e a' h' e' act w) l ds h) (rb : Option Nat) : CodeROK P w0 N rb f c := by
 intro a h e a' h' hr rd n m act w hrb ha F
 obtain ⟨l, hl, hk⟩ := hf a.tmps a.defers h e a' h' hr
 exact hk rd n m m act w (Ext.refl m) (RelAct.ofTree hl ha) F
end
end
end Go.Proofs.Ytbhblbffdmiepaa.Abs
namespace Go.Proofs.Ytbhblbffdmiepaa.Abs
noncomputable section
open Go.RowKit
section
variable {P : Program} {w0 : Base} {m0 : Map} {N : Nat} {rd : Option Nat} {nR : Nat} {l l' : Fr} {ds : DefT} {h h' : AHeap} {Q : Exit → Act → World → Prop} {K : Act → World → Prop} {Y : OutT} {ops : Array Oper} {i : Nat}
theorem WR.seqK {c : Code} (hc : Code.kind c = 1) (hk : ∀ K : Exit → Act → World → Prop, (∀ {ds : DefT} {l : Fr} {h : AHeap}, WR P w0 m0 N rd nR (Code.p2 c) Q l ds h → Go w0 m0 N (K .normal) l ds h) →
  (∀ {id : Nat} {ds : DefT} {l : Fr} {h : AHeap}, Go w0 m0 N (Q (.exit id)) l ds h → Go w0 m0 N (K (.exit id)) l ds h) → (∀ {ds : DefT} {l : Fr} {h : AHeap}, Go w0 m0 N (Q .ret) l ds h → Go w0 m0 N (K .ret) l ds h) →
  (∀ {ds : DefT} {l : Fr} {v : AV} {h : AHeap}, Pan w0 m0 N Q l ds v h → Pan w0 m0 N K l ds v h) → WR P w0 m0 N rd nR (Code.p1 c) K l ds h) : WR P w0 m0 N rd nR c Q l ds h :=
 WR.seq hc (hk _ (fun h => h) (fun h => h) (fun h => h) (fun h => h))
theorem WR.blockK {c : Code} (hc : Code.kind c = 3) (hk : ∀ K : Exit → Act → World → Prop, (∀ {ds : DefT} {l : Fr} {h : AHeap}, Go w0 m0 N (Q .normal) l ds h → Go w0 m0 N (K .normal) l ds h) →
  (∀ {id : Nat} {ds : DefT} {l : Fr} {h : AHeap}, Nat.beq id (Code.num c) = true → Go w0 m0 N (Q .normal) l ds h → Go w0 m0 N (K (.exit id)) l ds h) →
  (∀ {id : Nat} {ds : DefT} {l : Fr} {h : AHeap}, Nat.beq id (Code.num c) = false → Go w0 m0 N (Q (.exit id)) l ds h → Go w0 m0 N (K (.exit id)) l ds h) → (∀ {ds : DefT} {l : Fr} {h : AHeap}, Go w0 m0 N (Q .ret) l ds h → Go w0 m0 N (K .ret) l ds h) →
  (∀ {ds : DefT} {l : Fr} {v : AV} {h : AHeap}, Pan w0 m0 N Q l ds v h → Pan w0 m0 N K l ds v h) → WR P w0 m0 N rd nR (Code.p1 c) K l ds h) : WR P w0 m0 N rd nR c Q l ds h :=
 WR.block hc (hk _ (fun h => h) (fun e h => Go.bS e h) (fun e h => Go.bO e h) (fun h => h) (fun h => h))
theorem WR.loopK {c : Code} (hc : Code.kind c = 4) (hk : ∀ (I : Act → World → Prop) (K : Exit → Act → World → Prop), (∀ {ds : DefT} {l : Fr} {h : AHeap}, WR P w0 m0 N rd nR (Code.p1 c) K l ds h → Go w0 m0 N I l ds h) →
  (∀ {ds : DefT} {l : Fr} {h : AHeap}, Go w0 m0 N I l ds h → Go w0 m0 N (K .normal) l ds h) → (∀ {id : Nat} {ds : DefT} {l : Fr} {h : AHeap}, Go w0 m0 N (Q (.exit id)) l ds h → Go w0 m0 N (K (.exit id)) l ds h) →
  (∀ {ds : DefT} {l : Fr} {h : AHeap}, Go w0 m0 N (Q .ret) l ds h → Go w0 m0 N (K .ret) l ds h) → (∀ {ds : DefT} {l : Fr} {v : AV} {h : AHeap}, Pan w0 m0 N Q l ds v h → Pan w0 m0 N K l ds v h) →
  Go w0 m0 N I l ds h) : WR P w0 m0 N rd nR c Q l ds h :=
 WR.loop hc (hk _ _ (fun h => Go.roundR h) (fun h => h) (fun h => h) (fun h => h) (fun h => h))
end
section
variable {P : Program} {w0 : Base} {m0 : Map} {N : Nat} {rd : Option Nat} {nR : Nat} {l l' : Fr} {ds : DefT} {h : AHeap} {Q : Exit → Act → World → Prop} {K : Act → World → Prop} {Y : OutT} {ops : Array Oper} {i : Nat}
theorem WLR.a (d : Option Nat) (v : AV) (h' : AHeap) (hk : WLR P w0 m0 N rd nR ops (i + 1) Q (l.put d v) ds h') (h1 : dstR N ops i = some d := by kernel_rfl) (h2 : wantAt ops l.get i = some true := by kernel_rfl) (h3 : opAt P l.eval ops i h = some (.val v, h') := by kernel_rfl) : WLR P w0 m0 N rd nR ops i Q l ds h := WLR.val h1 h2 h3 hk
theorem WLR.b (d : Option Nat) (v : AV) (h' : AHeap) (x : Y = some (.val v, h')) (hk : WLR P w0 m0 N rd nR ops (i + 1) Q (l.put d v) ds h') (h1 : dstR N ops i = some d := by kernel_rfl) (h2 : wantAt ops l.get i = some true := by kernel_rfl) (h3 : opAt P l.eval ops i h = Y := by kernel_rfl) : WLR P w0 m0 N rd nR ops i Q l ds h := WLR.val h1 h2 (h3.trans x) hk
theorem WLR.e (h' : AHeap) (x : Y = some (.skip, h')) (hk : WLR P w0 m0 N rd nR ops (i + 1) Q l ds h') (h1 : dstR N ops i = some none := by kernel_rfl) (h2 : wantAt ops l.get i = some true := by kernel_rfl) (h3 : opAt P l.eval ops i h = Y := by kernel_rfl) : WLR P w0 m0 N rd nR ops i Q l ds h := WLR.eff h1 h2 (h3.trans x) hk
theorem WLR.o (d : Option Nat) (hk : WLR P w0 m0 N rd nR ops (i + 1) Q (l.put d (.tup [])) ds h) (h1 : dstR N ops i = some d := by kernel_rfl) (h2 : wantAt ops l.get i = some false := by kernel_rfl) : WLR P w0 m0 N rd nR ops i Q l ds h := WLR.not h1 h2 hk
theorem WLR.c {call : CallF} (hc : CallOK P w0 call) (d : Option Nat) {f : FuncId} {args : List AV} {v : AV} {h1 h' : AHeap} (hcall : call f args h1 = some (.ret v, h')) (hk : WLR P w0 m0 N rd nR ops (i + 1) Q (l.put d v) ds h') (h2 : dstR N ops i = some d := by kernel_rfl) (h3 : wantAt ops l.get i = some true := by kernel_rfl) (h4 : opAt P l.eval ops i h = some (.call f args, h1) := by kernel_rfl) : WLR P w0 m0 N rd nR ops i Q l ds h := WLR.call hc h2 h3 h4 hcall hk
theorem WLR.n (hk : Go w0 m0 N (Q .normal) l ds h) (hi : Nat.beq ops.size i = true := by kernel_rfl) : WLR P w0 m0 N rd nR ops i Q l ds h := WLR.nil hi hk
theorem WR.r {c : Code} (hk : WLR P w0 m0 N rd nR (Code.ops c) 0 Q l ds h) (hc : Code.kind c = 7 := by kernel_rfl) : WR P w0 m0 N rd nR c Q l ds h := WR.region hc hk
theorem WR.s {c : Code} (hk : ∀ K : Exit → Act → World → Prop, (∀ {ds : DefT} {l : Fr} {h : AHeap}, WR P w0 m0 N rd nR (Code.p2 c) Q l ds h → Go w0 m0 N (K .normal) l ds h) →
  (∀ {id : Nat} {ds : DefT} {l : Fr} {h : AHeap}, Go w0 m0 N (Q (.exit id)) l ds h → Go w0 m0 N (K (.exit id)) l ds h) → (∀ {ds : DefT} {l : Fr} {h : AHeap}, Go w0 m0 N (Q .ret) l ds h → Go w0 m0 N (K .ret) l ds h) →
  (∀ {ds : DefT} {l : Fr} {v : AV} {h : AHeap}, Pan w0 m0 N Q l ds v h → Pan w0 m0 N K l ds v h) → WR P w0 m0 N rd nR (Code.p1 c) K l ds h) (hc : Code.kind c = 1 := by kernel_rfl) : WR P w0 m0 N rd nR c Q l ds h := WR.seqK hc hk
theorem WR.t {c : Code} (hk : WR P w0 m0 N rd nR (Code.p1 c) Q l ds h) (hc : Code.kind c = 2 := by kernel_rfl) (hv : l.eval (Code.opd c) = some (.bool true) := by kernel_rfl) : WR P w0 m0 N rd nR c Q l ds h := WR.cond_true hc hv hk
theorem WR.f {c : Code} (hk : WR P w0 m0 N rd nR (Code.p2 c) Q l ds h) (hc : Code.kind c = 2 := by kernel_rfl) (hv : l.eval (Code.opd c) = some (.bool false) := by kernel_rfl) : WR P w0 m0 N rd nR c Q l ds h := WR.cond_false hc hv hk
end
section
variable {P : Program} {w0 : Base} {m0 : Map} {N : Nat} {rd : Option Nat} {nR : Nat} {l l' : Fr} {ds : DefT} {h : AHeap} {Q : Exit → Act → World → Prop} {K : Act → World → Prop} {Y : OutT} {ops : Array Oper} {i : Nat} {r : ARes × AHeap} {call : CallF}
end
end
end Go.Proofs.Ytbhblbffdmiepaa.Abs
namespace Go.Proofs.Ytbhblbffdmiepaa.Abs
noncomputable section
open Go.RowKit
def isRng : Code → Bool
 | .rangeFunc _ _ _ _ => true
 | _ => false
def Code.rgo : Code → Operand
 | .rangeFunc f _ _ _ => f
 | _ => .tmp 0
def Code.rgp : Code → Array Tmp
 | .rangeFunc _ ps _ _ => ps
 | _ => #[]
def Code.r1 : Code → Code
 | .rangeFunc _ _ x _ => x
 | _ => .skip
def Code.r2 : Code → Code
 | .rangeFunc _ _ _ y => y
 | _ => .skip
abbrev dmark (D : Nat) : FuncId × List AV × List AV := (0, [], [.mrk D])
def rngX (P : Program) (both : BothF) (N : Nat) (v : AV) (c : Code) (t : T AV) (ds : DefT) (h : AHeap) : CodeT := rangeR P both none N (some v) (Code.rgp c) (Code.r1 c) (Code.r2 c) ⟨t, ds⟩ h
def rngK (x : CodeT) (kn kr : AHeap → R) (ke : Nat → AHeap → R) : R := match x with
 | some (.normal, _, h) => kn h
 | some (.ret, _, h) => kr h
 | some (.exit id, _, h) => ke id h
 | _ => none
theorem rng_frame {P : Program} {both : BothF} {N : Nat} {f : Option AV} {ps : Array Tmp} {x y : Code} {t : T AV} {ds : DefT} {h h' : AHeap} {e : AExit} {a' : AAct} (hr : rangeR P both none N f ps x y ⟨t, ds⟩ h = some (e, a', h')) : a' = ⟨t, dmark h.next :: ds⟩ := by
 unfold rangeR at hr
 split at hr
 ·split at hr
  ·simp only [enterR] at hr
   unfold endR at hr
   split at hr
   ·split at hr
    ·split at hr
     ·cases hr
     ·split at hr <;> · simp only [Option.some.injEq, Prod.mk.injEq] at hr; exact hr.2.1.symm
    ·cases hr
   ·cases hr
  ·cases hr
 ·cases hr
section
variable {P : Program} {w0 : Base} {m0 : Map} {N : Nat} {n : Nat} {l l' : Fr} {ds : DefT} {h : AHeap} {Q : Exit → Act → World → Prop} {both : BothF} {r : ARes × AHeap} {kn kr : AHeap → R} {ke : Nat → AHeap → R} {v : AV}
theorem WR.rng (hc : BothAll P both) {c : Code} (z : rngK (rngX P both N v c l.tree ds h) kn kr ke = some r)
  (hn : ∀ h', kn h' = some r → Go w0 m0 N (Q .normal) l (dmark h.next :: ds) h') (hr : ∀ h', kr h' = some r → Go w0 m0 N (Q .ret) l (dmark h.next :: ds) h')
  (he : ∀ id h', ke id h' = some r → Go w0 m0 N (Q (.exit id)) l (dmark h.next :: ds) h') (hk : isRng c = true := by kernel_rfl) (hv : l.eval (Code.rgo c) = some v := by kernel_rfl) : WR P w0 m0 N none n c Q l ds h := by
 cases c with
 | rangeFunc f ps x y =>
  have hv : l.eval f = some v := hv
  unfold rngK rngX at z
  have hx : rangeR P both none N (some v) (Code.rgp (.rangeFunc f ps x y)) (Code.r1 (.rangeFunc f ps x y)) (Code.r2 (.rangeFunc f ps x y)) ⟨l.tree, ds⟩ h = rangeR P both none N (l.eval f) ps x y ⟨l.tree, ds⟩ h := by rw [hv]; rfl
  rw [hx] at z
  cases hr2 : rangeR P both none N (l.eval f) ps x y ⟨l.tree, ds⟩ h with
  | none => rw [hr2] at z; cases z
  | some p =>
   obtain ⟨e, a', h'⟩ := p
   have ha := rng_frame hr2
   subst ha
   rw [hr2] at z
   refine WR.range (l' := l) (hc w0) hr2 fun m act w e' hx hex ha F => ?_
   cases hex with
   | normal => exact hn h' z m act w hx ha F
   | ret => exact hr h' z m act w hx ha F
   | exit id => exact he id h' z m act w hx ha F
   | goto l => cases z
   | panic hv => cases z
 | _ => cases hk
def marksH : DefT → AHeap → Option AHeap
 | [], h => some h
 | (0, [], [.mrk D]) :: ds, h => match h.get D with
  | some (.obj .dfr) => marksH ds (h.put D (.obj .shut))
  | _ => none
 | _, _ => none
def marksK (ds : DefT) (h : AHeap) (k : AHeap → R) : R := match marksH ds h with
 | some h' => k h'
 | none => none
theorem marksR_H {fn : Func} {a : AAct} : ∀ (ds : DefT) (h h' : AHeap), marksH ds h = some h' → marksR P fn a ds h = retA h' (resAll P a h' fn.results.toList)
 | [], h, h', e => by
  simp only [marksH, Option.some.injEq] at e
  subst e
  rfl
 | d :: ds, h, h', e => by
  unfold marksH at e
  split at e
  ·rename_i e'
   cases e'
  ·rename_i D ds2 _ e'
   simp only [List.cons.injEq] at e'
   obtain ⟨rfl, rfl⟩ := e'
   split at e
   ·rename_i hb
    have ih := marksR_H (fn := fn) (a := a) _ _ _ e
    simp only [marksR, hb]
    exact ih
   ·cases e
  ·cases e
theorem Go.leaveK {fn : Func} {rR : ARes} {hR : AHeap} {k : AHeap → R} (z : marksK ds h k = some (rR, hR)) (hk : ∀ h', k h' = some (rR, hR) → retA h' (resGs P l.get h' fn.results.toList) = some (rR, hR)) : Go w0 m0 N (FinM P fn w0 m0 rR hR .ret) l ds h := by
 unfold marksK at z
 split at z
 ·rename_i h' hm
  refine Go.leaveM ?_
  rw [marksR_H _ _ _ hm]
  have := hk h' z
  rw [← resGs_eq]
  show retA h' (resGs P l.tree.get h' _) = _
  rw [Fr.fget_tree]
  exact this
 ·cases z
theorem Go.leaveKN {fn : Func} {rR : ARes} {hR : AHeap} {k : AHeap → R} (z : marksK ds h k = some (rR, hR)) (hk : ∀ h', k h' = some (rR, hR) → retA h' (resGs P l.get h' fn.results.toList) = some (rR, hR)) : Go w0 m0 N (FinM P fn w0 m0 rR hR .normal) l ds h := Go.leaveK (P := P) z hk
end
theorem ret_of {P : Program} {g : Nat → Option AV} {h : AHeap} {fn : Func} {rs : List ResultVar} {vs : List AV} {v : AV} (hrs : fn.results.toList = rs) (hv : resGs P g h rs = some vs) (hr : retA h (some vs) = some (.ret v, h)) : retA h (resGs P g h fn.results.toList) = some (.ret v, h) := by
 rw [hrs, hv]
 exact hr
theorem ifB_id {id k : Nat} {a : R} {r : ARes × AHeap} (z : ifB (Nat.beq id k) a none = some r) : id = k ∧ a = some r := by
 cases hb : Nat.beq id k with
 | true => rw [hb] at z; exact ⟨Nat.eq_of_beq_eq_true hb, z⟩
 | false => rw [hb] at z; cases z
def dynB (P : Program) (both : BothF) (f : AV) (args : List AV) (h : AHeap) : R := match callV P h args (some f) with
 | some (.call g xs, h1) => both false g xs h1
 | some (.round b xs, h1) => both true b xs h1
 | some (.val v, h1) => some (.ret v, h1)
 | _ => none
section
variable {P : Program} {w0 : Base} {m0 : Map} {N : Nat} {rd : Option Nat} {n : Nat} {l : Fr} {ds : DefT} {h h' : AHeap} {Q : Exit → Act → World → Prop} {both : BothF}
theorem WLR.dyn (hc : BothAll P both) {ops : Array Oper} {i : Nat} {d : Option Nat} {f v : AV} {args : List AV} (hcall : dynB P both f args h = some (.ret v, h')) (hk : WLR P w0 m0 N rd n ops (i + 1) Q (l.put d v) ds h') (hd : dstR N ops i = some d := by kernel_rfl) (hw : wantAt ops l.get i = some true := by kernel_rfl)
  (hop : opAt P l.eval ops i h = callV P h args (some f) := by kernel_rfl) : WLR P w0 m0 N rd n ops i Q l ds h := by
 unfold dynB at hcall
 split at hcall
 ·rename_i g xs h1 e
  exact WLR.callB (hc w0) hd hw (hop.trans e) hcall hk
 ·rename_i b xs h1 e
  exact WLR.round (hc w0) hd hw (hop.trans e) hcall hk
 ·rename_i v1 h1 e
  cases hcall
  exact WLR.val hd hw (hop.trans e) hk
 ·cases hcall
end
def decE : ARes → AExit
 | .ret (.int _ z) => match z with
  | 0 => .normal
  | 1 => .ret
  | z => .exit (z - 2).toNat
 | _ => .normal
def tupFr (ts : List Nat) : ARes → Fr
 | .ret (.tup vs) => ts.zip vs
 | _ => []
section
variable {P : Program} {w0 : Base} {m0 : Map} {N : Nat} {l l' : Fr} {ds : DefT} {h : AHeap}
theorem Go.postN (hs : l.sub l') : Go w0 m0 N (Post w0 m0 N .normal ⟨l'.tree, ds⟩ h .normal) l ds h := fun m _ _ he ha F => ⟨m, he, ha.weaken hs, F, .normal⟩
theorem Go.postE {id : Nat} : Go w0 m0 N (Post w0 m0 N (.exit id) ⟨Fr.tree [], ds⟩ h (.exit id)) l ds h := fun m _ _ he ha F => ⟨m, he, ha.weaken (Fr.sub_nil _), F, .exit id⟩
end
section
variable {P : Program} {both : BothF} {N : Nat} {c : Code} {t : T AV} {ds : DefT} {h h2 : AHeap} {kn kr : AHeap → R} {ke : Nat → AHeap → R} {Q : ARes → AHeap → Prop} {g : FuncId} {first cap : List AV} {v : AV} {q : ALoop}
def rngH (N : Nat) (c : Code) (t : T AV) (h : AHeap) : AHeap := (h.new (.obj .dfr)).new (.obj (.loop ⟨.ready, .none, t, N, Code.rgp c, Code.r1 c, Code.r2 c, h.next⟩))
theorem rngX_of (hb : hasBody P g = true) (e : both false g (first ++ [.yld (h.next + 1)] ++ cap) (rngH N c t h) = some (.ret v, h2)) (hq : h2.get (h.next + 1) = some (.obj (.loop q))) (hs : q.st ≠ .busy) :
  rngX P both N (.fn g first cap) c t ds h = (match q.pend with
   | .none => some (.normal, ⟨t, dmark h.next :: ds⟩, h2.put (h.next + 1) (.obj (.loop { q with st := .exhausted })))
   | .ret => some (.ret, ⟨t, dmark h.next :: ds⟩, h2.put (h.next + 1) (.obj (.loop { q with st := .exhausted })))
   | .exit id => some (.exit id, ⟨t, dmark h.next :: ds⟩, h2.put (h.next + 1) (.obj (.loop { q with st := .exhausted })))) := by
 unfold rngX rangeR
 simp only [hb, enterR]
 unfold rngH at e
 rw [e]
 unfold endR
 simp only [hq]
 cases hst : q.st with
 | busy => exact absurd hst hs
 | _ => rfl
theorem Wp.rngN (hb : hasBody P g = true) (e : both false g (first ++ [.yld (h.next + 1)] ++ cap) (rngH N c t h) = some (.ret v, h2)) (hq : h2.get (h.next + 1) = some (.obj (.loop q))) (hs : q.st ≠ .busy) (hp : q.pend = .none) (hk : Wp (kn (h2.put (h.next + 1) (.obj (.loop { q with st := .exhausted })))) Q) : Wp (rngK (rngX P both N (.fn g first cap) c t ds h) kn kr ke) Q := by
 rw [rngX_of hb e hq hs]
 rw [hp] at hk ⊢
 exact hk
theorem Wp.rngR (hb : hasBody P g = true) (e : both false g (first ++ [.yld (h.next + 1)] ++ cap) (rngH N c t h) = some (.ret v, h2)) (hq : h2.get (h.next + 1) = some (.obj (.loop q))) (hs : q.st ≠ .busy) (hp : q.pend = .ret) (hk : Wp (kr (h2.put (h.next + 1) (.obj (.loop { q with st := .exhausted })))) Q) : Wp (rngK (rngX P both N (.fn g first cap) c t ds h) kn kr ke) Q := by
 rw [rngX_of hb e hq hs]
 rw [hp] at hk ⊢
 exact hk
theorem Wp.rngE {id : Nat} (hb : hasBody P g = true) (e : both false g (first ++ [.yld (h.next + 1)] ++ cap) (rngH N c t h) = some (.ret v, h2)) (hq : h2.get (h.next + 1) = some (.obj (.loop q))) (hs : q.st ≠ .busy) (hp : q.pend = .exit id) (hk : Wp (ke id (h2.put (h.next + 1) (.obj (.loop { q with st := .exhausted })))) Q) : Wp (rngK (rngX P both N (.fn g first cap) c t ds h) kn kr ke) Q := by
 rw [rngX_of hb e hq hs]
 rw [hp] at hk ⊢
 exact hk
end
end
end Go.Proofs.Ytbhblbffdmiepaa.Abs
namespace Go.Proofs.Ytbhblbffdmiepaa.Abs
noncomputable section
open Go.RowKit
structure Site where
 N : Nat
 code : Code
 run : BothF → AAct → AHeap → CodeT
open Classical in
def Site.ok (P : Program) (s : Site) : Prop := ∀ both, BothAll P both → ∀ w0 rb, CodeROK P w0 s.N rb (s.run both) s.code
open Classical in
def decA (ts : List Nat) (ds : DefT) : R → CodeT
 | some (r, h) => some (.normal, ⟨Fr.tree (tupFr ts r), ds⟩, h)
 | none => none
def decB (ds : DefT) : R → CodeT
 | some (r, h) => some (decE r, ⟨Fr.tree [], ds⟩, h)
 | none => none
theorem decA_some {ts : List Nat} {ds : DefT} {x : R} {e : AExit} {a' : AAct} {h' : AHeap} (z : decA ts ds x = some (e, a', h')) : ∃ r, x = some (r, h') ∧ e = .normal ∧ a' = ⟨Fr.tree (tupFr ts r), ds⟩ := by
 cases x with
 | none => cases z
 | some p =>
  obtain ⟨r, h⟩ := p
  simp only [decA, Option.some.injEq, Prod.mk.injEq] at z
  obtain ⟨rfl, rfl, rfl⟩ := z
  exact ⟨r, rfl, rfl, rfl⟩
theorem decB_some {ds : DefT} {x : R} {e : AExit} {a' : AAct} {h' : AHeap} (z : decB ds x = some (e, a', h')) : ∃ r, x = some (r, h') ∧ e = decE r ∧ a' = ⟨Fr.tree [], ds⟩ := by
 cases x with
 | none => cases z
 | some p =>
  obtain ⟨r, h⟩ := p
  simp only [decB, Option.some.injEq, Prod.mk.injEq] at z
  obtain ⟨rfl, rfl, rfl⟩ := z
  exact ⟨r, rfl, rfl, rfl⟩
end
end Go.Proofs.Ytbhblbffdmiepaa.Abs
