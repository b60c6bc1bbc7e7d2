/- What patternEmpties_proved stands on, part 5 of 8. -/
import Derived.Test.YteibdplpbcobbaaPe4
import Derived.Test.YteibdplpbcobbaaRows
import Derived.WalkKit
import Derived.ProofKit
import Derived.OpenShut
import Derived.SizedLaws
import Derived.SliceStrings
namespace Go.Proofs.Yteibdplpbcobbaa
open Go.ChangeShapes Go.WideShapes Go.ChangeAt Go.RowKit
open Go.ChangeMaps (open_string shut_string)
theorem Try.own : ownKnob Try.prog.godebug = none := by kernel_rfl
theorem Try.laidOut : laidOutB Try.prog = true := by kernel_rfl
section
variable {H : Type} {enc : TypeId × Value → H}
theorem stays {P : Program} (hP : laidOutB P = true) {W W' : World} (hb : Below W.heap.size W W') (ts : List TypeId) : ∀ (vs : List Value) (ds : List (DataW H)) (ps : List MemPlace),
  DataW.TrodAll enc P W 0 (fun _ => true) true ts vs ds ps → (∀ t ∈ ts, P.readableRec t = true ∧ t < P.types.size) → (∀ x ∈ ps, x.block < W.heap.size) →
  DataW.TrodAll enc P W' 0 (fun b => decide (b < W.heap.size)) true ts vs ds ps := by
 induction ts with
 | nil =>
  intro vs ds ps h _ _
  obtain ⟨rfl, rfl, rfl⟩ := trodAll_nil h
  exact trodAll_mk0
 | cons t ts ih =>
  intro vs ds ps h hr hlt
  obtain ⟨v, vs', d, ds', p, q, rfl, rfl, rfl, h1, h2⟩ := trodAll_cons h
  obtain ⟨hr1, hr2⟩ := hr t (List.mem_cons_self ..)
  exact trodAll_cons_mk (Below.trod hP hr1 hr2 h1 hb (fun x hx => hlt x (List.mem_append_left _ hx))) (ih _ _ _ h2 (fun t ht => hr t (List.mem_cons_of_mem _ ht)) (fun x hx => hlt x (List.mem_append_right _ hx)))
theorem readable_of {P : Program} {ts : List TypeId} (h : (ts.all fun t => P.readableRec t && decide (t < P.types.size)) = true) : ∀ t ∈ ts, P.readableRec t = true ∧ t < P.types.size := by
 intro t ht
 have h1 := List.all_eq_true.1 h t ht
 rw [Bool.and_eq_true] at h1
 exact ⟨h1.1, of_decide_eq_true h1.2⟩
set_option maxRecDepth 100000 in
theorem lifted_of {f : FuncId} {fn : Func} {s : ChangeSpec} (hfn : Try.prog.funcs[f]? = some fn) (noInit : Try.prog.inits.idxOf? f = none) (hvars : s.vars = []) (hres : fn.resultTypes = #[4])
  (hread : (fn.params.toList.all fun t => Try.prog.readableRec t && decide (t < Try.prog.types.size)) = true)
  (hspec : ∀ (args : List Value) (ds : List (DataW H)) (W : World) (p : List MemPlace), DataW.TrodAll enc Try.prog W 0 (fun _ => true) true fn.params.toList args ds p → (s.fn H (ds ++ [])).results = [.lit (.bool true)] ∧ (s.fn H (ds ++ [])).args = ds ∧ (s.fn H (ds ++ [])).vars = [])
  (hplain : s.plain.varTypes Try.prog = [])
  (os : Os) (started : os.Started)
  (witness : ∃ (w : World) (tape : Tape) (i : Input), w.os = os ∧ (w.forCall tape i).Shaped Try.prog ∧ i.vars = [] ∧ Input.okWide Try.prog (w.forCall tape i) .any w.heap.size f i ∧
   s.pre6 enc Try.prog fn [] false (w.forCall tape i).memory i.args ∧ ({} : Assume).holds Try.prog (lone (Frame.enter Try.prog f i.args .normal) [] (w.forCall tape i)))
  (walk : ∀ (W : World) (args : Array Value) (ds : List (DataW H)) (p : List MemPlace), (∀ (j : Nat) t v, fn.params[j]? = some t → args[j]? = some v → ∃ base, Value.okWide Try.prog W .any base t v) →
   DataW.TrodAll enc Try.prog W 0 (fun _ => true) true fn.params.toList args.toList ds p → (∀ x ∈ p, x.block < W.heap.size) →
   (DataW.weightsEach Try.prog fn.params.toList ds).all (· ≤ reachBytes) = true →
   Calls Try.prog f args W fun e W' => e = .returned (.bool true) ∧ Below W.heap.size W W') :
  ReturnsInHanded {} Try.checked os f .any (s.pre6 enc Try.prog fn [] false) (s.post enc Try.prog fn false true false false) := by
 refine returnsInHanded_of_change_sized (C := Try.checked) Try.own started noInit hfn witness ?_
 intro W base args ds gs before hval hW _ hsz0 _
 have hW' := hW
 obtain ⟨p, q, hA0, hV, rfl, _, _⟩ := hW
 have hA : DataW.TrodAll enc Try.prog W 0 (fun _ => true) true fn.params.toList args.toList ds p := hA0
 rw [hvars] at hV hW'
 obtain ⟨rfl, rfl⟩ := trodVars_none hV
 simp only [List.append_nil] at hW'
 have hlt : ∀ x ∈ p, x.block < W.heap.size := fun x hx => by simpa using hW'.lt x hx
 have hsz : (DataW.weightsEach Try.prog fn.params.toList ds).all (· ≤ reachBytes) = true := by
  have h := hsz0
  rw [show s.plain.varTypes Try.checked.prog = [] from hplain] at h
  simp only [List.append_nil] at h
  exact h
 obtain ⟨er, ea, ev⟩ := hspec args.toList ds W p hA
 refine (walk W args ds p (fun j t v h1 h2 => ⟨base, hval j t v h1 h2⟩) hA hlt hsz).mono fun e W' ⟨he, hb⟩ => ?_
 subst he
 refine ⟨_, rfl, ds, [], p, [], p, [], ?_, ?_, ?_, ?_, hb.frame _, fun h => by cases h⟩
 ·rw [hvars]; exact hW'
 ·rw [er, hres]; exact trodAll_mk1 (shut_bool Try.underlying4 _)
 ·rw [ea]; exact stays Try.laidOut hb _ _ _ _ hA (readable_of hread) hlt
 ·rw [ev, hvars]; trivial
end
end Go.Proofs.Yteibdplpbcobbaa
namespace Go.Proofs.Yteibdplpbcobbaa
open Go.RowKit Abs
set_option maxRecDepth 100000 in
theorem works_run : came (.ret (.bool true)) (callA Try.prog (Memo.spec Try.prog 5000 []) 5000 30 13 [] ⟨0, [57], .e⟩) = true := by kernel_rfl
theorem works_holds : Holds Try.prog 13 (constF (.ret (.bool true))) :=
 constF_holds (fun h => Memo.says (by kernel_rfl) Memo.ok_nil (by kernel_rfl) (by kernel_rfl) works_run h)
end Go.Proofs.Yteibdplpbcobbaa
namespace Go.Proofs.Yteibdplpbcobbaa.Abs
noncomputable section
open Go.RowKit
section
variable {P : Program} {w0 : Base} {m0 : Map} {N : Nat} {l l' : Fr} {ds : DefT} {h : AHeap} {Q : Exit → Act → World → Prop} {K : Act → World → Prop} {Y : OutT} {ops : Array Oper} {i : Nat}
theorem WL.a (d : Option Nat) (v : AV) (h' : AHeap) (hk : WL P w0 m0 N ops (i + 1) Q (l.put d v) ds h') (h1 : dstN N ops i = some d := by kernel_rfl) (h2 : wantAt ops l.get i = some true := by kernel_rfl) (h3 : opAt P l.eval ops i h = some (.val v, h') := by kernel_rfl) : WL P w0 m0 N ops i Q l ds h := WL.val h1 h2 h3 hk
theorem WL.b (d : Option Nat) (v : AV) (h' : AHeap) (x : Y = some (.val v, h')) (hk : WL P w0 m0 N ops (i + 1) Q (l.put d v) ds h') (h1 : dstN N ops i = some d := by kernel_rfl) (h2 : wantAt ops l.get i = some true := by kernel_rfl) (h3 : opAt P l.eval ops i h = Y := by kernel_rfl) : WL P w0 m0 N ops i Q l ds h := WL.val h1 h2 (h3.trans x) hk
theorem WL.e (h' : AHeap) (x : Y = some (.skip, h')) (hk : WL P w0 m0 N ops (i + 1) Q l ds h') (h1 : dstN N ops i = some none := by kernel_rfl) (h2 : wantAt ops l.get i = some true := by kernel_rfl) (h3 : opAt P l.eval ops i h = Y := by kernel_rfl) : WL P w0 m0 N ops i Q l ds h := WL.eff h1 h2 (h3.trans x) hk
theorem WL.o (d : Option Nat) (hk : WL P w0 m0 N ops (i + 1) Q (l.put d (.tup [])) ds h) (h1 : dstN N ops i = some d := by kernel_rfl) (h2 : wantAt ops l.get i = some false := by kernel_rfl) : WL P w0 m0 N ops i Q l ds h := WL.not h1 h2 hk
theorem WL.c {call : CallF} (hc : CallOK P w0 call) (d : Option Nat) {f : FuncId} {args : List AV} {v : AV} {h1 h' : AHeap} (hcall : call f args h1 = some (.ret v, h')) (hk : WL P w0 m0 N ops (i + 1) Q (l.put d v) ds h') (h2 : dstN N ops i = some d := by kernel_rfl) (h3 : wantAt ops l.get i = some true := by kernel_rfl) (h4 : opAt P l.eval ops i h = some (.call f args, h1) := by kernel_rfl) : WL P w0 m0 N ops i Q l ds h := WL.call hc h2 h3 h4 hcall hk
theorem WL.n (hk : Go w0 m0 N (Q .normal) l ds h) (hi : Nat.beq ops.size i = true := by kernel_rfl) : WL P w0 m0 N ops i Q l ds h := WL.nil hi hk
theorem WD.a {call : CallF} {plan : List Nat} {rs : List Rec} (k : Nat) (d : Option Nat) (v : AV) (h' : AHeap) (hk : WD P w0 m0 N call ops plan (recsD k (recAt P ops i l h) rs) K (l.put d v) ds h') (h1 : dstN N ops i = some d := by kernel_rfl) (h2 : wantAt ops l.get i = some true := by kernel_rfl) (h3 : opAt P l.eval ops i h = some (.val v, h') := by kernel_rfl)
  (h4 : kindD P ops i = k := by kernel_rfl) (h5 : Nat.beq k 2 = false := by kernel_rfl) (h6 : Nat.beq k 9 = false := by kernel_rfl) : WD P w0 m0 N call ops (i :: plan) rs K l ds h :=
 WD.val h1 h2 h3 h4 (fun e => by subst e; cases h5) (fun e => by subst e; cases h6) hk
theorem WD.b {call : CallF} {plan : List Nat} {rs : List Rec} (k : Nat) (d : Option Nat) (v : AV) (h' : AHeap) (x : Y = some (.val v, h')) (hk : WD P w0 m0 N call ops plan (recsD k (recAt P ops i l h) rs) K (l.put d v) ds h') (h1 : dstN N ops i = some d := by kernel_rfl) (h2 : wantAt ops l.get i = some true := by kernel_rfl) (h3 : opAt P l.eval ops i h = Y := by kernel_rfl)
  (h4 : kindD P ops i = k := by kernel_rfl) (h5 : Nat.beq k 2 = false := by kernel_rfl) (h6 : Nat.beq k 9 = false := by kernel_rfl) : WD P w0 m0 N call ops (i :: plan) rs K l ds h :=
 WD.val h1 h2 (h3.trans x) h4 (fun e => by subst e; cases h5) (fun e => by subst e; cases h6) hk
theorem W.r {c : Code} (hk : WL P w0 m0 N (Code.ops c) 0 Q l ds h) (hc : Code.kind c = 7 := by kernel_rfl) : W P w0 m0 N c Q l ds h := W.region hc hk
theorem W.s {c : Code} (hk : ∀ K : Exit → Act → World → Prop, (∀ {ds : DefT} {l : Fr} {h : AHeap}, W P w0 m0 N (Code.p2 c) Q l ds h → Go w0 m0 N (K .normal) l ds h) →
  (∀ {id : Nat} {ds : DefT} {l : Fr} {h : AHeap}, Go w0 m0 N (Q (.exit id)) l ds h → Go w0 m0 N (K (.exit id)) l ds h) → (∀ {ds : DefT} {l : Fr} {h : AHeap}, Go w0 m0 N (Q .ret) l ds h → Go w0 m0 N (K .ret) l ds h) →
  (∀ {ds : DefT} {l : Fr} {v : AV} {h : AHeap}, Pan w0 m0 N Q l ds v h → Pan w0 m0 N K l ds v h) → W P w0 m0 N (Code.p1 c) K l ds h) (hc : Code.kind c = 1 := by kernel_rfl) : W P w0 m0 N c Q l ds h := W.seqK hc hk
theorem W.t {c : Code} (hk : W P w0 m0 N (Code.p1 c) Q l ds h) (hc : Code.kind c = 2 := by kernel_rfl) (hv : l.eval (Code.opd c) = some (.bool true) := by kernel_rfl) : W P w0 m0 N c Q l ds h := W.cond_true hc hv hk
theorem W.f {c : Code} (hk : W P w0 m0 N (Code.p2 c) Q l ds h) (hc : Code.kind c = 2 := by kernel_rfl) (hv : l.eval (Code.opd c) = some (.bool false) := by kernel_rfl) : W P w0 m0 N c Q l ds h := W.cond_false hc hv hk
end
theorem Fr.c {l l' : Fr} {t : Nat} {v : AV} (k : l.sub l') (h : l.get t = some v := by kernel_rfl) : l.sub ((t, v) :: l') := Fr.sub_cons h k
theorem Fr.n {l : Fr} : l.sub [] := Fr.sub_nil l
end
end Go.Proofs.Yteibdplpbcobbaa.Abs
namespace Go.Proofs.Yteibdplpbcobbaa
open Go.RowKit Abs
set_option maxHeartbeats 4000000
set_option maxRecDepth 20000
noncomputable abbrev Pg : Program := Try.prog
theorem oS {α : Type} {x : Option α} {k : α → R} {r : ARes × AHeap} (h : obind x k = some r) : ∃ a, x = some a ∧ k a = some r := obind_some h
theorem lS {α : Type} {v : α} {k : α → R} {r : ARes × AHeap} (h : lett v k = some r) : ∃ x, x = v ∧ k x = some r := lett_some h
noncomputable def pattern_guard_1_d (_ : CallF) (_ : Nat) (t0 : AV) (x : AV) (h : AHeap) : R :=
 outK (opBin Pg h .neq 20 true (some x) (some AV.nifc)) fun v6 h_2 =>
 obind (avBool v6) fun t6 =>
 lett (fun  (h_6 : AHeap) =>
  some (.ret (.tup []), h_6)) fun k5 =>
 ifB t6
 (
  outK (opAssert Pg h_2 91 true (some x)) fun v9 h_8 =>
  obind (extT 0 v9) fun v10 =>
  obind (avAgg v10) fun t10 =>
  obind (extT 1 v9) fun v11 =>
  obind (avBool v11) fun t11 =>
  lett (newH h_8 91 [.int .i64 0, .int .i64 0]) fun h_14 =>
  obind (stRow h_14 2 t10 (newP h_8)) fun h_16 =>
  lett (!t11) fun (t13 : Bool) =>
  lett (fun  (h_22 : AHeap) =>
   obind (ldRow h_22 2 (AV.ptr (AHeap.next h_8) 0)) fun t16 =>
   obind (stRow h_22 2 t16 t0) fun h_24 =>
   k5 h_24) fun k21 =>
  ifB t13
  (
   none)
  (
   k21 h_16))
 (
  k5 h_2)
theorem pattern_guard_1_d_ok {call : CallF} (_ : SaysAll Pg call) {n : Nat} {t0 : AV} {x : AV} {u : Option AV} (hu : u.getD .nifc = x) {h : AHeap} {rR : ARes} {hR : AHeap} (z : pattern_guard_1_d call n t0 x h = some (rR, hR)) : DSays Pg 53 [t0] u h none hR := by
 unfold pattern_guard_1_d at z
 subst hu
 refine dsays_of (fn := Try.f53) (u' := none) (h1 := h) (l := [(1, (u.getD .nifc)), (4, (u.getD .nifc)), (0, t0)]) Try.func53 (c := codeOf Try.f53) (by kernel_rfl) (by kernel_rfl) (by kernel_rfl) (by kernel_rfl) (by kernel_rfl) (by kernel_rfl) (by kernel_rfl) (fun w0 m0 => ?_)
 refine W.weaken (l' := [(0, t0), (1, (u.getD .nifc))]) (Fr.c (Fr.c Fr.n)) ?_
 refine W.s (fun _ n1 _ _ _ => ?_)
 refine W.r ?_
 refine WL.a (some 5) (u.getD .nifc) h ?_
 replace z := outK_some z; obtain ⟨v6, h_2, e3, z⟩ := z
 replace z := oS z; obtain ⟨t6, c4, z⟩ := z
 have c4 := avBool_some c4
 subst c4
 refine WL.b (some 6) (.bool t6) h_2 e3 ?_
 refine WL.n ?_
 refine Go.weaken (l' := [(0, t0), (1, (u.getD .nifc)), (6, .bool t6)]) (Fr.c (Fr.c (Fr.c Fr.n))) ?_
 refine n1 ?_
 replace z := lS z; obtain ⟨k5, e5, z⟩ := z
 have J5 : ∀  (h_6 : AHeap), k5 h_6 = some (rR, hR) → Go w0 m0 (Func.ntmps Try.f53) (DFin w0 m0 hR .normal) [] [] h_6 := by
  intro  h_6 z
  rw [e5] at z
  obtain ⟨z, hF2⟩ := ret_inj z; subst hF2
  exact Go.dleave
 cases t6 with
 | true =>
  replace z := ifB_t z
  refine W.t ?_
  refine W.s (fun _ n7 _ _ _ => ?_)
  refine W.r ?_
  refine WL.a (some 8) (u.getD .nifc) h_2 ?_
  replace z := outK_some z; obtain ⟨v9, h_8, e9, z⟩ := z
  refine WL.b (some 9) v9 h_8 e9 ?_
  refine WL.a (some 7) v9 h_8 ?_
  replace z := oS z; obtain ⟨v10, e10, z⟩ := z
  replace z := oS z; obtain ⟨t10, c11, z⟩ := z
  have c11 := avAgg_some c11
  subst c11
  refine WL.b (some 10) (.agg t10) h_8 (extract_tup (h := h_8) e10) ?_
  replace z := oS z; obtain ⟨v11, e12, z⟩ := z
  replace z := oS z; obtain ⟨t11, c13, z⟩ := z
  have c13 := avBool_some c13
  subst c13
  refine WL.b (some 11) (.bool t11) h_8 (extract_tup (h := h_8) e12) ?_
  replace z := lS z; obtain ⟨h_14, e15, z⟩ := z
  refine WL.val (d := (some 2)) (v := (newP h_8)) (h' := h_14) (by kernel_rfl) (by kernel_rfl) (val_ofH e15 (by kernel_rfl)) ?_
  replace z := oS z; obtain ⟨h_16, e17, z⟩ := z
  refine WL.e h_16 (store_row (P := Pg) (h := h_14) (t := 91) (v := (.agg t10)) (by kernel_rfl) (by kernel_rfl) e17) ?_
  refine WL.a (some 3) (.bool t11) h_16 ?_
  refine WL.n ?_
  refine Go.weaken (l' := [(0, t0), (1, (u.getD .nifc)), (2, newP h_8), (3, .bool t11)]) (Fr.c (Fr.c (Fr.c (Fr.c Fr.n)))) ?_
  refine n7 ?_
  refine W.s (fun K18 n18 _ _ _ => ?_)
  refine W.s (fun _ n19 _ _ _ => ?_)
  refine W.r ?_
  refine WL.a (some 12) (.bool t11) h_16 ?_
  replace z := lS z; obtain ⟨t13, e20, z⟩ := z
  refine WL.val (d := (some 13)) (v := .bool t13) (h' := h_16) (by kernel_rfl) (by kernel_rfl) (val_of AV.bool e20 (by kernel_rfl)) ?_
  refine WL.n ?_
  refine Go.weaken (l' := [(0, t0), (1, (u.getD .nifc)), (2, newP h_8), (13, .bool t13)]) (Fr.c (Fr.c (Fr.c (Fr.c Fr.n)))) ?_
  refine n19 ?_
  replace z := lS z; obtain ⟨k21, e21, z⟩ := z
  have J21 : ∀  (h_22 : AHeap), k21 h_22 = some (rR, hR) → Go w0 m0 (Func.ntmps Try.f53) (K18 .normal) [(0, t0), (2, newP h_8)] [] h_22 := by
   intro  h_22 z
   rw [e21] at z
   refine n18 ?_
   refine W.r ?_
   refine WL.a (some 15) (AV.ptr (AHeap.next h_8) 0) h_22 ?_
   replace z := oS z; obtain ⟨t16, e23, z⟩ := z
   refine WL.b (some 16) (.agg t16) h_22 (load_row (P := Pg) (h := h_22) (t := 27) (by kernel_rfl) (by kernel_rfl) e23) ?_
   replace z := oS z; obtain ⟨h_24, e25, z⟩ := z
   refine WL.e h_24 (store_row (P := Pg) (h := h_22) (t := 27) (v := (.agg t16)) (by kernel_rfl) (by kernel_rfl) e25) ?_
   refine WL.n ?_
   refine Go.weaken (l' := []) Fr.n ?_
   exact Go.weaken Fr.n (J5 _ z)
  cases t13 with
  | true =>
   replace z := ifB_t z
   refine W.t ?_
   refine W.r ?_
   refine WL.a (some 14) (u.getD .nifc) h_16 ?_
   cases z
  | false =>
   replace z := ifB_f z
   refine W.f ?_
   refine W.skip (by kernel_rfl) ?_
   exact Go.weaken (Fr.c (Fr.c Fr.n)) (J21 _ z)
 | false =>
  replace z := ifB_f z
  refine W.f ?_
  refine W.skip (by kernel_rfl) ?_
  exact Go.weaken Fr.n (J5 _ z)
noncomputable def pattern_guard (call : CallF) (n : Nat) (t0 : AV) (h : AHeap) : R :=
 lett (newH h 27 [.int .i64 0, .int .i64 0]) fun h_2 =>
 callKd (dynC Pg call t0 [] h_2) (fun pv h_14 =>
  callN (pattern_guard_1_d call n (newP h) pv h_14) fun _ h_15 =>
  obind (ldRow h_15 2 (newP h)) fun w2_18 =>
  some (.ret (.agg w2_18), h_15)) fun _ h_6 =>
 obind (stRow h_6 2 ([.int .i64 0, .int .i64 0] : List AV) (newP h)) fun h_9 =>
 callN (pattern_guard_1_d call n (newP h) .nifc h_9) fun _ h_11 =>
 obind (ldRow h_11 2 (newP h)) fun w2 =>
 some (.ret (.agg w2), h_11)
theorem pattern_guard_ok {call : CallF} (hc : SaysAll Pg call) {n : Nat} {t0 : AV} {h : AHeap} {rR : ARes} {hR : AHeap} (z : pattern_guard call n t0 h = some (rR, hR)) : Says Pg 35 [t0] h rR hR := by
 unfold pattern_guard at z
 refine says_of (fn := Try.f35) Try.func35 (c := codeOf Try.f35) (by kernel_rfl) (by kernel_rfl) (fun w0 m0 => ?_)
 refine W.weaken (l' := [(0, t0)]) (Fr.c Fr.n) ?_
 refine W.s (fun _ n1 _ _ _ => ?_)
 refine W.r ?_
 replace z := lS z; obtain ⟨h_2, e3, z⟩ := z
 refine WL.val (d := (some 2)) (v := (newP h)) (h' := h_2) (by kernel_rfl) (by kernel_rfl) (val_ofH e3 (by kernel_rfl)) ?_
 refine WL.n ?_
 refine Go.weaken (l' := [(0, t0), (2, newP h)]) (Fr.c (Fr.c Fr.n)) ?_
 refine n1 ?_
 refine W.s (fun _ n4 _ _ _ => ?_)
 refine W.r ?_
 refine WL.a (some 3) (AV.fn 53 [] [(newP h)]) h_2 ?_
 refine WL.dfr (d := none) (f := 53) (args := []) (cap := [(newP h)]) (h' := h_2) (by kernel_rfl) (by kernel_rfl) (by kernel_rfl) ?_
 refine WL.n ?_
 refine Go.weaken (l' := [(0, t0), (2, newP h)]) (Fr.c (Fr.c Fr.n)) ?_
 refine n4 ?_
 refine W.s (fun _ n5 _ _ p5 => ?_)
 refine W.r ?_
 refine WL.a (some 4) t0 h_2 ?_
 replace z := callKd_some z; rcases z with ⟨r5, h_6, e7, z⟩ | ⟨pv, h_14, e7, z⟩
 ·rcases dynC_some e7 with ⟨d19g, d19as, d19h, d191, d192⟩ | ⟨d19v, d19h, d191, d192⟩
  rotate_left
  ·cases d192
   refine WL.val (d := (some 5)) (by kernel_rfl) (by kernel_rfl) (Eq.trans (by kernel_rfl) d191) ?_
   refine WL.n ?_
   refine Go.weaken (l' := [(2, newP h)]) (Fr.c Fr.n) ?_
   refine n5 ?_
   refine W.s (fun K8 n8 e8 q8 p8 => ?_)
   refine W.r ?_
   refine WL.a (some 6) (.agg ([.int .i64 0, .int .i64 0] : List AV)) h_6 ?_
   replace z := oS z; obtain ⟨h_9, e10, z⟩ := z
   refine WL.e h_9 (store_row (P := Pg) (h := h_6) (t := 27) (v := (.agg ([.int .i64 0, .int .i64 0] : List AV))) (by kernel_rfl) (by kernel_rfl) e10) ?_
   refine WL.n ?_
   refine Go.weaken (l' := [(2, newP h)]) (Fr.c Fr.n) ?_
   refine n8 ?_
   refine W.ret (by kernel_rfl) ?_
   replace z := callN_some z; obtain ⟨_, h_11, e12, z⟩ := z
   replace z := oS z; obtain ⟨w2, e13, z⟩ := z
   obtain ⟨z, hF2⟩ := ret_inj z; subst z; subst hF2
   exact Go.leaveD (by kernel_rfl) (pattern_guard_1_d_ok hc (u := none) rfl e12) (ends_of (rs := [.cell 2 27]) (vs := [.agg w2]) (by kernel_rfl) (res_cell (by kernel_rfl) (load_row (P := Pg) (h := h_11) (t := 27) (by kernel_rfl) (by kernel_rfl) e13) res_nil) (by kernel_rfl))
  ·refine WL.call (hc.ok w0) (d := (some 5)) (by kernel_rfl) (by kernel_rfl) (Eq.trans (by kernel_rfl) d191) d192 ?_
   refine WL.n ?_
   refine Go.weaken (l' := [(2, newP h)]) (Fr.c Fr.n) ?_
   refine n5 ?_
   refine W.s (fun K8 n8 e8 q8 p8 => ?_)
   refine W.r ?_
   refine WL.a (some 6) (.agg ([.int .i64 0, .int .i64 0] : List AV)) h_6 ?_
   replace z := oS z; obtain ⟨h_9, e10, z⟩ := z
   refine WL.e h_9 (store_row (P := Pg) (h := h_6) (t := 27) (v := (.agg ([.int .i64 0, .int .i64 0] : List AV))) (by kernel_rfl) (by kernel_rfl) e10) ?_
   refine WL.n ?_
   refine Go.weaken (l' := [(2, newP h)]) (Fr.c Fr.n) ?_
   refine n8 ?_
   refine W.ret (by kernel_rfl) ?_
   replace z := callN_some z; obtain ⟨_, h_11, e12, z⟩ := z
   replace z := oS z; obtain ⟨w2, e13, z⟩ := z
   obtain ⟨z, hF2⟩ := ret_inj z; subst z; subst hF2
   exact Go.leaveD (by kernel_rfl) (pattern_guard_1_d_ok hc (u := none) rfl e12) (ends_of (rs := [.cell 2 27]) (vs := [.agg w2]) (by kernel_rfl) (res_cell (by kernel_rfl) (load_row (P := Pg) (h := h_11) (t := 27) (by kernel_rfl) (by kernel_rfl) e13) res_nil) (by kernel_rfl))
 ·replace z := callN_some z; obtain ⟨_, h_15, e16, z⟩ := z
  replace z := oS z; obtain ⟨w2_18, e17, z⟩ := z
  obtain ⟨z, hF2⟩ := ret_inj z; subst z; subst hF2
  rcases dynC_some e7 with ⟨d19g, d19as, d19h, d191, d192⟩ | ⟨d19v, d19h, d191, d192⟩
  ·exact WL.callPanic (hc.ok w0) (d := (some 5)) (by kernel_rfl) (by kernel_rfl) (Eq.trans (by kernel_rfl) d191) d192 (p5 (Pan.leaveD (by kernel_rfl) (pattern_guard_1_d_ok hc (u := (some pv)) rfl e16) (ends_of (rs := [.cell 2 27]) (vs := [.agg w2_18]) (by kernel_rfl) (res_cell (by kernel_rfl) (load_row (P := Pg) (h := h_15) (t := 27) (by kernel_rfl) (by kernel_rfl) e17) res_nil) (by kernel_rfl))))
  ·cases d192
noncomputable def pattern_guard_fn (call : CallF) (n : Nat) : FnT := fun args h => match args with
 | [x0] => pattern_guard call n x0 h
 | _ => none
set_option maxRecDepth 100000 in
theorem pattern_guard_fn_eq (call : CallF) (n : Nat) (t0 : AV) (h : AHeap) : pattern_guard_fn call n [t0] h = pattern_guard call n t0 h :=
 rfl
theorem pattern_guard_holds {call : CallF} (hc : SaysAll Pg call) (n : Nat) : Holds Pg 35 (pattern_guard_fn call n) := by
 intro args h r h2 e
 unfold pattern_guard_fn at e
 split at e
 ·exact pattern_guard_ok hc e
 ·cases e
noncomputable def pattern_reader_take (call : CallF) (_ : Nat) (t0 : AV) (t1 : Int) (h : AHeap) : R :=
 callN (call 55 [t0, .int .u8 t1] h) fun r6 h_2 =>
 obind (avBool r6) fun t6 =>
 lett (!t6) fun (t7 : Bool) =>
 lett (fun  (h_7 : AHeap) =>
  some (.ret (.tup []), h_7)) fun k6 =>
 ifB t7
 (
  obind (nilC t0) fun t9 =>
  obind (fldP 1 t9) fun t10 =>
  obind (ldCell h_2 t10) fun v11 =>
  obind (avInt .i64 v11) fun t11 =>
  callK (call 57 [.int .i64 6, .int .i64 t11] h_2) fun _ h_12 =>
  k6 h_12)
 (
  k6 h_2)
theorem pattern_reader_take_ok {call : CallF} (hc : SaysAll Pg call) {n : Nat} {t0 : AV} {t1 : Int} {h : AHeap} {rR : ARes} {hR : AHeap} (z : pattern_reader_take call n t0 t1 h = some (rR, hR)) : Says Pg 54 [t0, .int .u8 t1] h rR hR := by
 unfold pattern_reader_take at z
 refine says_of (fn := Try.f54) Try.func54 (c := codeOf Try.f54) (by kernel_rfl) (by kernel_rfl) (fun w0 m0 => ?_)
 refine W.weaken (l' := [(0, t0), (1, .int .u8 t1)]) (Fr.c (Fr.c Fr.n)) ?_
 refine W.s (fun _ n1 _ _ _ => ?_)
 refine W.r ?_
 refine WL.a (some 4) t0 h ?_
 refine WL.a (some 5) (.int .u8 t1) h ?_
 replace z := callN_some z; obtain ⟨r6, h_2, e3, z⟩ := z
 replace z := oS z; obtain ⟨t6, c4, z⟩ := z
 have c4 := avBool_some c4
 subst c4
 refine WL.c (hc.ok w0) (some 6) e3 ?_
 replace z := lS z; obtain ⟨t7, e5, z⟩ := z
 refine WL.val (d := (some 7)) (v := .bool t7) (h' := h_2) (by kernel_rfl) (by kernel_rfl) (val_of AV.bool e5 (by kernel_rfl)) ?_
 refine WL.n ?_
 refine Go.weaken (l' := [(0, t0), (7, .bool t7)]) (Fr.c (Fr.c Fr.n)) ?_
 refine n1 ?_
 replace z := lS z; obtain ⟨k6, e6, z⟩ := z
 have J6 : ∀  (h_7 : AHeap), k6 h_7 = some (rR, hR) → Go w0 m0 (Func.ntmps Try.f54) (Fin Pg Try.f54 w0 m0 rR hR .normal) [] [] h_7 := by
  intro  h_7 z
  rw [e6] at z
  obtain ⟨z, hF2⟩ := ret_inj z; subst z; subst hF2
  exact leaveN_of (rs := []) (vs := []) (by kernel_rfl) res_nil (by kernel_rfl)
 cases t7 with
 | true =>
  replace z := ifB_t z
  refine W.t ?_
  refine W.r ?_
  refine WL.a (some 8) t0 h_2 ?_
  replace z := oS z; obtain ⟨t9, e8, z⟩ := z
  refine WL.b (some 9) t9 h_2 (nil_chk (h := h_2) e8) ?_
  replace z := oS z; obtain ⟨t10, e9, z⟩ := z
  refine WL.b (some 10) t10 h_2 (field_ptr (P := Pg) (h := h_2) (s := 70) (f := 1) (by kernel_rfl) e9) ?_
  replace z := oS z; obtain ⟨v11, e10, z⟩ := z
  replace z := oS z; obtain ⟨t11, c11, z⟩ := z
  have c11 := avInt_some c11
  subst c11
  refine WL.b (some 11) (.int .i64 t11) h_2 (load_cell (P := Pg) (h := h_2) (t := 3) (by kernel_rfl) e10) ?_
  replace z := callK_some z; rcases z with ⟨r12, h_12, e13, z⟩ | ⟨r12, h_12, e13, q14⟩
  ·refine WL.c (hc.ok w0) (some 12) e13 ?_
   refine WL.n ?_
   refine Go.weaken (l' := []) Fr.n ?_
   exact Go.weaken Fr.n (J6 _ z)
  ·obtain ⟨zq, zr⟩ := pan_inj q14; subst zq; subst zr
   exact WL.callPanic (hc.ok w0) (d := (some 12)) (by kernel_rfl) (by kernel_rfl) (by kernel_rfl) e13 Pan.fin
 | false =>
  replace z := ifB_f z
  refine W.f ?_
  refine W.skip (by kernel_rfl) ?_
  exact Go.weaken Fr.n (J6 _ z)
noncomputable def pattern_reader_take_fn (call : CallF) (n : Nat) : FnT := fun args h => match args with
 | [x0, x1] => obind (avInt .u8 x1) fun t1 => pattern_reader_take call n x0 t1 h
 | _ => none
set_option maxRecDepth 100000 in
theorem pattern_reader_take_fn_eq (call : CallF) (n : Nat) (t0 : AV) (t1 : Int) (h : AHeap) : pattern_reader_take_fn call n [t0, .int .u8 t1] h = pattern_reader_take call n t0 t1 h :=
 (Eq.trans (obind_eq (fun t1 => pattern_reader_take call n t0 t1 h) (avInt_int .u8 t1)) rfl)
theorem pattern_reader_take_holds {call : CallF} (hc : SaysAll Pg call) (n : Nat) : Holds Pg 54 (pattern_reader_take_fn call n) := by
 intro args h r h2 e
 unfold pattern_reader_take_fn at e
 split at e
 ·replace e := oS e; obtain ⟨t1, c1, e⟩ := e; have c1 := avInt_some c1; subst c1
  exact pattern_reader_take_ok hc e
 ·cases e
noncomputable def pattern_reader_skips (call : CallF) (_ : Nat) (t0 : AV) (t1 : Int) (h : AHeap) : R :=
 callN (call 68 [t0, .int .u8 t1] h) fun r7 h_4 =>
 obind (avBool r7) fun t7 =>
 lett (!t7) fun (t8 : Bool) =>
 ifB t8
 (
  some (.ret (.bool false), h_4))
 (
  obind (nilC t0) fun t10 =>
  obind (fldP 1 t10) fun t11 =>
  obind (ldCell h_4 t11) fun v12 =>
  obind (avInt .i64 v12) fun t12 =>
  lett (IntKind.i64.wrap (t12 + 1)) fun (t13 : Int) =>
  obind (nilC t0) fun t14 =>
  obind (fldP 1 t14) fun t15 =>
  obind (stRow h_4 1 [.int .i64 t13] t15) fun h_17 =>
  some (.ret (.bool true), h_17))
theorem pattern_reader_skips_ok {call : CallF} (hc : SaysAll Pg call) {n : Nat} {t0 : AV} {t1 : Int} {h : AHeap} {rR : ARes} {hR : AHeap} (z : pattern_reader_skips call n t0 t1 h = some (rR, hR)) : Says Pg 55 [t0, .int .u8 t1] h rR hR := by
 unfold pattern_reader_skips at z
 refine says_of (fn := Try.f55) Try.func55 (c := codeOf Try.f55) (by kernel_rfl) (by kernel_rfl) (fun w0 m0 => ?_)
 refine W.weaken (l' := [(0, t0), (1, .int .u8 t1)]) (Fr.c (Fr.c Fr.n)) ?_
 refine W.s (fun _ n1 _ _ _ => ?_)
 refine W.r ?_
 refine WL.a (some 4) (.bool false) h ?_
 refine WL.n ?_
 refine Go.weaken (l' := [(0, t0), (1, .int .u8 t1)]) (Fr.c (Fr.c Fr.n)) ?_
 refine n1 ?_
 refine W.s (fun _ n2 _ q2 _ => ?_)
 refine W.s (fun _ n3 _ _ _ => ?_)
 refine W.r ?_
 refine WL.a (some 5) t0 h ?_
 refine WL.a (some 6) (.int .u8 t1) h ?_
 replace z := callN_some z; obtain ⟨r7, h_4, e5, z⟩ := z
 replace z := oS z; obtain ⟨t7, c6, z⟩ := z
 have c6 := avBool_some c6
 subst c6
 refine WL.c (hc.ok w0) (some 7) e5 ?_
 replace z := lS z; obtain ⟨t8, e7, z⟩ := z
 refine WL.val (d := (some 8)) (v := .bool t8) (h' := h_4) (by kernel_rfl) (by kernel_rfl) (val_of AV.bool e7 (by kernel_rfl)) ?_
 refine WL.n ?_
 refine Go.weaken (l' := [(0, t0), (8, .bool t8)]) (Fr.c (Fr.c Fr.n)) ?_
 refine n3 ?_
 cases t8 with
 | true =>
  replace z := ifB_t z
  refine W.t ?_
  refine W.s (fun _ n8 _ _ _ => ?_)
  refine W.r ?_
  refine WL.a (some 4) (.bool false) h_4 ?_
  refine WL.n ?_
  refine Go.weaken (l' := [(4, .bool false)]) (Fr.c Fr.n) ?_
  refine n8 ?_
  refine W.ret (by kernel_rfl) ?_
  refine q2 ?_
  obtain ⟨z, hF2⟩ := ret_inj z; subst z; subst hF2
  exact leave_of (rs := [.tmp 4]) (vs := [.bool false]) (by kernel_rfl) (res_tmp (by kernel_rfl) res_nil) (by kernel_rfl)
 | false =>
  replace z := ifB_f z
  refine W.f ?_
  refine W.skip (by kernel_rfl) ?_
  refine n2 ?_
  refine W.s (fun _ n9 _ _ _ => ?_)
  refine W.r ?_
  refine WL.a (some 9) t0 h_4 ?_
  replace z := oS z; obtain ⟨t10, e10, z⟩ := z
  refine WL.b (some 10) t10 h_4 (nil_chk (h := h_4) e10) ?_
  replace z := oS z; obtain ⟨t11, e11, z⟩ := z
  refine WL.b (some 11) t11 h_4 (field_ptr (P := Pg) (h := h_4) (s := 70) (f := 1) (by kernel_rfl) e11) ?_
  replace z := oS z; obtain ⟨v12, e12, z⟩ := z
  replace z := oS z; obtain ⟨t12, c13, z⟩ := z
  have c13 := avInt_some c13
  subst c13
  refine WL.b (some 12) (.int .i64 t12) h_4 (load_cell (P := Pg) (h := h_4) (t := 3) (by kernel_rfl) e12) ?_
  replace z := lS z; obtain ⟨t13, e14, z⟩ := z
  refine WL.val (d := (some 13)) (v := .int .i64 t13) (h' := h_4) (by kernel_rfl) (by kernel_rfl) (val_of (AV.int .i64) e14 (by kernel_rfl)) ?_
  replace z := oS z; obtain ⟨t14, e15, z⟩ := z
  refine WL.b (some 14) t14 h_4 (nil_chk (h := h_4) e15) ?_
  replace z := oS z; obtain ⟨t15, e16, z⟩ := z
  refine WL.b (some 15) t15 h_4 (field_ptr (P := Pg) (h := h_4) (s := 70) (f := 1) (by kernel_rfl) e16) ?_
  replace z := oS z; obtain ⟨h_17, e18, z⟩ := z
  refine WL.e h_17 (store_row (P := Pg) (h := h_4) (t := 3) (v := (.int .i64 t13)) (by kernel_rfl) (by kernel_rfl) e18) ?_
  refine WL.n ?_
  refine Go.weaken (l' := []) Fr.n ?_
  refine n9 ?_
  refine W.s (fun _ n19 _ _ _ => ?_)
  refine W.r ?_
  refine WL.a (some 4) (.bool true) h_17 ?_
  refine WL.n ?_
  refine Go.weaken (l' := [(4, .bool true)]) (Fr.c Fr.n) ?_
  refine n19 ?_
  refine W.ret (by kernel_rfl) ?_
  obtain ⟨z, hF2⟩ := ret_inj z; subst z; subst hF2
  exact leave_of (rs := [.tmp 4]) (vs := [.bool true]) (by kernel_rfl) (res_tmp (by kernel_rfl) res_nil) (by kernel_rfl)
noncomputable def pattern_reader_skips_fn (call : CallF) (n : Nat) : FnT := fun args h => match args with
 | [x0, x1] => obind (avInt .u8 x1) fun t1 => pattern_reader_skips call n x0 t1 h
 | _ => none
set_option maxRecDepth 100000 in
theorem pattern_reader_skips_fn_eq (call : CallF) (n : Nat) (t0 : AV) (t1 : Int) (h : AHeap) : pattern_reader_skips_fn call n [t0, .int .u8 t1] h = pattern_reader_skips call n t0 t1 h :=
 (Eq.trans (obind_eq (fun t1 => pattern_reader_skips call n t0 t1 h) (avInt_int .u8 t1)) rfl)
theorem pattern_reader_skips_holds {call : CallF} (hc : SaysAll Pg call) (n : Nat) : Holds Pg 55 (pattern_reader_skips_fn call n) := by
 intro args h r h2 e
 unfold pattern_reader_skips_fn at e
 split at e
 ·replace e := oS e; obtain ⟨t1, c1, e⟩ := e; have c1 := avInt_some c1; subst c1
  exact pattern_reader_skips_ok hc e
 ·cases e
noncomputable def pattern_reader_sees (call : CallF) (_ : Nat) (t0 : AV) (t1 : Int) (h : AHeap) : R :=
 lett (fun (t4 : Bool) (h_4 : AHeap) =>
  some (.ret (.bool t4), h_4)) fun k3 =>
 callN (call 74 [t0] h) fun r6 h_5 =>
 obind (avBool r6) fun t6 =>
 lett (!t6) fun (t7 : Bool) =>
 ifB t7
 (
  obind (nilC t0) fun t10 =>
  obind (fldP 0 t10) fun t11 =>
  obind (ldCell h_5 t11) fun v12 =>
  obind (avStr v12) fun t12 =>
  obind (nilC t0) fun t14 =>
  obind (fldP 1 t14) fun t15 =>
  obind (ldCell h_5 t15) fun v16 =>
  obind (avInt .i64 v16) fun t16 =>
  obind (idxS t12 t16) fun t17 =>
  lett ((t17 : Int) == t1) fun (t19 : Bool) =>
  k3 t19 h_5)
 (
  k3 false h_5)
theorem pattern_reader_sees_ok {call : CallF} (hc : SaysAll Pg call) {n : Nat} {t0 : AV} {t1 : Int} {h : AHeap} {rR : ARes} {hR : AHeap} (z : pattern_reader_sees call n t0 t1 h = some (rR, hR)) : Says Pg 68 [t0, .int .u8 t1] h rR hR := by
 unfold pattern_reader_sees at z
 refine says_of (fn := Try.f68) Try.func68 (c := codeOf Try.f68) (by kernel_rfl) (by kernel_rfl) (fun w0 m0 => ?_)
 refine W.weaken (l' := [(0, t0), (1, .int .u8 t1)]) (Fr.c (Fr.c Fr.n)) ?_
 refine W.s (fun _ n1 _ _ _ => ?_)
 refine W.r ?_
 refine WL.a (some 4) (.bool false) h ?_
 refine WL.n ?_
 refine Go.weaken (l' := [(0, t0), (1, .int .u8 t1)]) (Fr.c (Fr.c Fr.n)) ?_
 refine n1 ?_
 refine W.s (fun K2 n2 _ _ _ => ?_)
 replace z := lS z; obtain ⟨k3, e3, z⟩ := z
 have J3 : ∀ (t4 : Bool) (h_4 : AHeap), k3 t4 h_4 = some (rR, hR) → Go w0 m0 (Func.ntmps Try.f68) (K2 .normal) [(4, .bool t4)] [] h_4 := by
  intro t4 h_4 z
  rw [e3] at z
  refine n2 ?_
  refine W.ret (by kernel_rfl) ?_
  obtain ⟨z, hF2⟩ := ret_inj z; subst z; subst hF2
  exact leave_of (rs := [.tmp 4]) (vs := [.bool t4]) (by kernel_rfl) (res_tmp (by kernel_rfl) res_nil) (by kernel_rfl)
 refine W.draw (by kernel_rfl) (hc.ok w0) (plan := [0, 1, 2, 3, 4, 5, 6, 7, 8, 9, 10, 11, 12, 13, 14, 15, 16]) (by kernel_rfl) (by kernel_rfl) (by kernel_rfl) ?_
 refine WD.a 0 (some 5) t0 h ?_
 replace z := callN_some z; obtain ⟨r6, h_5, e6, z⟩ := z
 replace z := oS z; obtain ⟨t6, c7, z⟩ := z
 have c7 := avBool_some c7
 subst c7
 refine WD.call (d := (some 6)) (by kernel_rfl) (by kernel_rfl) (by kernel_rfl) e6 (k := 2) (by kernel_rfl) (fun _ => (by kernel_rfl)) (by decide) ?_
 replace z := lS z; obtain ⟨t7, e8, z⟩ := z
 refine WD.val (d := (some 7)) (v := .bool t7) (h' := h_5) (by kernel_rfl) (by kernel_rfl) (val_of AV.bool e8 (by kernel_rfl)) (k := 0) (by kernel_rfl) (fun e => absurd e (by decide)) (by decide) ?_
 refine WD.a 0 (some 8) (.bool t7) h_5 ?_
 cases t7 with
 | true =>
  replace z := ifB_t z
  refine WD.a 0 (some 9) t0 h_5 ?_
  replace z := oS z; obtain ⟨t10, e9, z⟩ := z
  refine WD.b 0 (some 10) t10 h_5 (nil_chk (h := h_5) e9) ?_
  replace z := oS z; obtain ⟨t11, e10, z⟩ := z
  refine WD.b 0 (some 11) t11 h_5 (field_ptr (P := Pg) (h := h_5) (s := 70) (f := 0) (by kernel_rfl) e10) ?_
  replace z := oS z; obtain ⟨v12, e11, z⟩ := z
  replace z := oS z; obtain ⟨t12, c12, z⟩ := z
  have c12 := avStr_some c12
  subst c12
  refine WD.b 1 (some 12) (strA t12) h_5 (load_cell (P := Pg) (h := h_5) (t := 9) (by kernel_rfl) e11) ?_
  refine WD.a 0 (some 13) t0 h_5 ?_
  replace z := oS z; obtain ⟨t14, e13, z⟩ := z
  refine WD.b 0 (some 14) t14 h_5 (nil_chk (h := h_5) e13) ?_
  replace z := oS z; obtain ⟨t15, e14, z⟩ := z
  refine WD.b 0 (some 15) t15 h_5 (field_ptr (P := Pg) (h := h_5) (s := 70) (f := 1) (by kernel_rfl) e14) ?_
  replace z := oS z; obtain ⟨v16, e15, z⟩ := z
  replace z := oS z; obtain ⟨t16, c16, z⟩ := z
  have c16 := avInt_some c16
  subst c16
  refine WD.b 1 (some 16) (.int .i64 t16) h_5 (load_cell (P := Pg) (h := h_5) (t := 3) (by kernel_rfl) e15) ?_
  replace z := oS z; obtain ⟨t17, e17, z⟩ := z
  refine WD.b 0 (some 17) (.int .u8 t17) h_5 (index_str (P := Pg) (h := h_5) (t := 9) (k := .i64) (by kernel_rfl) e17) ?_
  refine WD.a 0 (some 18) (.int .u8 t1) h_5 ?_
  replace z := lS z; obtain ⟨t19, e18, z⟩ := z
  refine WD.val (d := (some 19)) (v := .bool t19) (h' := h_5) (by kernel_rfl) (by kernel_rfl) (val_of AV.bool e18 (by kernel_rfl)) (k := 0) (by kernel_rfl) (fun e => absurd e (by decide)) (by decide) ?_
  refine WD.a 0 (some 20) (.bool t19) h_5 ?_
  refine WD.a 0 (some 4) (.bool t19) h_5 ?_
  refine WD.nil ?_
  exact Go.weaken (Fr.c Fr.n) (J3 _ _ z)
 | false =>
  replace z := ifB_f z
  refine WD.not (d := (some 9)) (by kernel_rfl) (by kernel_rfl) (k := 0) (by kernel_rfl) (fun e => absurd e (by decide)) (by decide) ?_
  refine WD.not (d := (some 10)) (by kernel_rfl) (by kernel_rfl) (k := 0) (by kernel_rfl) (fun e => absurd e (by decide)) (by decide) ?_
  refine WD.not (d := (some 11)) (by kernel_rfl) (by kernel_rfl) (k := 0) (by kernel_rfl) (fun e => absurd e (by decide)) (by decide) ?_
  refine WD.not (d := (some 12)) (by kernel_rfl) (by kernel_rfl) (k := 1) (by kernel_rfl) (fun e => absurd e (by decide)) (by decide) ?_
  refine WD.not (d := (some 13)) (by kernel_rfl) (by kernel_rfl) (k := 0) (by kernel_rfl) (fun e => absurd e (by decide)) (by decide) ?_
  refine WD.not (d := (some 14)) (by kernel_rfl) (by kernel_rfl) (k := 0) (by kernel_rfl) (fun e => absurd e (by decide)) (by decide) ?_
  refine WD.not (d := (some 15)) (by kernel_rfl) (by kernel_rfl) (k := 0) (by kernel_rfl) (fun e => absurd e (by decide)) (by decide) ?_
  refine WD.not (d := (some 16)) (by kernel_rfl) (by kernel_rfl) (k := 1) (by kernel_rfl) (fun e => absurd e (by decide)) (by decide) ?_
  refine WD.not (d := (some 17)) (by kernel_rfl) (by kernel_rfl) (k := 0) (by kernel_rfl) (fun e => absurd e (by decide)) (by decide) ?_
  refine WD.not (d := (some 18)) (by kernel_rfl) (by kernel_rfl) (k := 0) (by kernel_rfl) (fun e => absurd e (by decide)) (by decide) ?_
  refine WD.not (d := (some 19)) (by kernel_rfl) (by kernel_rfl) (k := 0) (by kernel_rfl) (fun e => absurd e (by decide)) (by decide) ?_
  refine WD.a 0 (some 20) (.bool false) h_5 ?_
  refine WD.a 0 (some 4) (.bool false) h_5 ?_
  refine WD.nil ?_
  exact Go.weaken (Fr.c Fr.n) (J3 _ _ z)
noncomputable def pattern_reader_sees_fn (call : CallF) (n : Nat) : FnT := fun args h => match args with
 | [x0, x1] => obind (avInt .u8 x1) fun t1 => pattern_reader_sees call n x0 t1 h
 | _ => none
set_option maxRecDepth 100000 in
theorem pattern_reader_sees_fn_eq (call : CallF) (n : Nat) (t0 : AV) (t1 : Int) (h : AHeap) : pattern_reader_sees_fn call n [t0, .int .u8 t1] h = pattern_reader_sees call n t0 t1 h :=
 (Eq.trans (obind_eq (fun t1 => pattern_reader_sees call n t0 t1 h) (avInt_int .u8 t1)) rfl)
theorem pattern_reader_sees_holds {call : CallF} (hc : SaysAll Pg call) (n : Nat) : Holds Pg 68 (pattern_reader_sees_fn call n) := by
 intro args h r h2 e
 unfold pattern_reader_sees_fn at e
 split at e
 ·replace e := oS e; obtain ⟨t1, c1, e⟩ := e; have c1 := avInt_some c1; subst c1
  exact pattern_reader_sees_ok hc e
 ·cases e
noncomputable def pattern_reader_ended (_ : CallF) (_ : Nat) (t0 : AV) (h : AHeap) : R :=
 obind (nilC t0) fun t4 =>
 obind (fldP 1 t4) fun t5 =>
 obind (ldCell h t5) fun v6 =>
 obind (avInt .i64 v6) fun t6 =>
 obind (nilC t0) fun t8 =>
 obind (fldP 0 t8) fun t9 =>
 obind (ldCell h t9) fun v10 =>
 obind (avStr v10) fun t10 =>
 lett ((t6 : Int) == (lenS t10)) fun (t12 : Bool) =>
 some (.ret (.bool t12), h)
theorem pattern_reader_ended_ok {call : CallF} (hc : SaysAll Pg call) {n : Nat} {t0 : AV} {h : AHeap} {rR : ARes} {hR : AHeap} (z : pattern_reader_ended call n t0 h = some (rR, hR)) : Says Pg 74 [t0] h rR hR := by
 unfold pattern_reader_ended at z
 refine says_of (fn := Try.f74) Try.func74 (c := codeOf Try.f74) (by kernel_rfl) (by kernel_rfl) (fun w0 m0 => ?_)
 refine W.weaken (l' := [(0, t0)]) (Fr.c Fr.n) ?_
 refine W.s (fun _ n1 _ _ _ => ?_)
 refine W.r ?_
 refine WL.a (some 2) (.bool false) h ?_
 refine WL.n ?_
 refine Go.weaken (l' := [(0, t0)]) (Fr.c Fr.n) ?_
 refine n1 ?_
 refine W.s (fun _ n2 _ _ _ => ?_)
 refine W.draw (by kernel_rfl) (hc.ok w0) (plan := [0, 1, 2, 3, 4, 5, 6, 7, 8, 9, 10]) (by kernel_rfl) (by kernel_rfl) (by kernel_rfl) ?_
 refine WD.a 0 (some 3) t0 h ?_
 replace z := oS z; obtain ⟨t4, e3, z⟩ := z
 refine WD.b 0 (some 4) t4 h (nil_chk (h := h) e3) ?_
 replace z := oS z; obtain ⟨t5, e4, z⟩ := z
 refine WD.b 0 (some 5) t5 h (field_ptr (P := Pg) (h := h) (s := 70) (f := 1) (by kernel_rfl) e4) ?_
 replace z := oS z; obtain ⟨v6, e5, z⟩ := z
 replace z := oS z; obtain ⟨t6, c6, z⟩ := z
 have c6 := avInt_some c6
 subst c6
 refine WD.b 1 (some 6) (.int .i64 t6) h (load_cell (P := Pg) (h := h) (t := 3) (by kernel_rfl) e5) ?_
 refine WD.a 0 (some 7) t0 h ?_
 replace z := oS z; obtain ⟨t8, e7, z⟩ := z
 refine WD.b 0 (some 8) t8 h (nil_chk (h := h) e7) ?_
 replace z := oS z; obtain ⟨t9, e8, z⟩ := z
 refine WD.b 0 (some 9) t9 h (field_ptr (P := Pg) (h := h) (s := 70) (f := 0) (by kernel_rfl) e8) ?_
 replace z := oS z; obtain ⟨v10, e9, z⟩ := z
 replace z := oS z; obtain ⟨t10, c10, z⟩ := z
 have c10 := avStr_some c10
 subst c10
 refine WD.b 1 (some 10) (strA t10) h (load_cell (P := Pg) (h := h) (t := 9) (by kernel_rfl) e9) ?_
 refine WD.a 0 (some 11) (.int .i64 (lenS t10)) h ?_
 replace z := lS z; obtain ⟨t12, e11, z⟩ := z
 refine WD.val (d := (some 12)) (v := .bool t12) (h' := h) (by kernel_rfl) (by kernel_rfl) (val_of AV.bool e11 (by kernel_rfl)) (k := 0) (by kernel_rfl) (fun e => absurd e (by decide)) (by decide) ?_
 refine WD.a 0 (some 2) (.bool t12) h ?_
 refine WD.nil ?_
 refine Go.weaken (l' := [(2, .bool t12)]) (Fr.c Fr.n) ?_
 refine n2 ?_
 refine W.ret (by kernel_rfl) ?_
 obtain ⟨z, hF2⟩ := ret_inj z; subst z; subst hF2
 exact leave_of (rs := [.tmp 2]) (vs := [.bool t12]) (by kernel_rfl) (res_tmp (by kernel_rfl) res_nil) (by kernel_rfl)
noncomputable def pattern_reader_ended_fn (call : CallF) (n : Nat) : FnT := fun args h => match args with
 | [x0] => pattern_reader_ended call n x0 h
 | _ => none
set_option maxRecDepth 100000 in
theorem pattern_reader_ended_fn_eq (call : CallF) (n : Nat) (t0 : AV) (h : AHeap) : pattern_reader_ended_fn call n [t0] h = pattern_reader_ended call n t0 h :=
 rfl
theorem pattern_reader_ended_holds {call : CallF} (hc : SaysAll Pg call) (n : Nat) : Holds Pg 74 (pattern_reader_ended_fn call n) := by
 intro args h r h2 e
 unfold pattern_reader_ended_fn at e
 split at e
 ·exact pattern_reader_ended_ok hc e
 ·cases e
noncomputable def pattern_reader_end (call : CallF) (_ : Nat) (t0 : AV) (h : AHeap) : R :=
 callN (call 74 [t0] h) fun r3 h_2 =>
 obind (avBool r3) fun t3 =>
 lett (!t3) fun (t4 : Bool) =>
 lett (fun  (h_7 : AHeap) =>
  some (.ret (.tup []), h_7)) fun k6 =>
 ifB t4
 (
  obind (nilC t0) fun t6 =>
  obind (fldP 1 t6) fun t7 =>
  obind (ldCell h_2 t7) fun v8 =>
  obind (avInt .i64 v8) fun t8 =>
  callK (call 57 [.int .i64 6, .int .i64 t8] h_2) fun _ h_12 =>
  k6 h_12)
 (
  k6 h_2)
theorem pattern_reader_end_ok {call : CallF} (hc : SaysAll Pg call) {n : Nat} {t0 : AV} {h : AHeap} {rR : ARes} {hR : AHeap} (z : pattern_reader_end call n t0 h = some (rR, hR)) : Says Pg 62 [t0] h rR hR := by
 unfold pattern_reader_end at z
 refine says_of (fn := Try.f62) Try.func62 (c := codeOf Try.f62) (by kernel_rfl) (by kernel_rfl) (fun w0 m0 => ?_)
 refine W.weaken (l' := [(0, t0)]) (Fr.c Fr.n) ?_
 refine W.s (fun _ n1 _ _ _ => ?_)
 refine W.r ?_
 refine WL.a (some 2) t0 h ?_
 replace z := callN_some z; obtain ⟨r3, h_2, e3, z⟩ := z
 replace z := oS z; obtain ⟨t3, c4, z⟩ := z
 have c4 := avBool_some c4
 subst c4
 refine WL.c (hc.ok w0) (some 3) e3 ?_
 replace z := lS z; obtain ⟨t4, e5, z⟩ := z
 refine WL.val (d := (some 4)) (v := .bool t4) (h' := h_2) (by kernel_rfl) (by kernel_rfl) (val_of AV.bool e5 (by kernel_rfl)) ?_
 refine WL.n ?_
 refine Go.weaken (l' := [(0, t0), (4, .bool t4)]) (Fr.c (Fr.c Fr.n)) ?_
 refine n1 ?_
 replace z := lS z; obtain ⟨k6, e6, z⟩ := z
 have J6 : ∀  (h_7 : AHeap), k6 h_7 = some (rR, hR) → Go w0 m0 (Func.ntmps Try.f62) (Fin Pg Try.f62 w0 m0 rR hR .normal) [] [] h_7 := by
  intro  h_7 z
  rw [e6] at z
  obtain ⟨z, hF2⟩ := ret_inj z; subst z; subst hF2
  exact leaveN_of (rs := []) (vs := []) (by kernel_rfl) res_nil (by kernel_rfl)
 cases t4 with
 | true =>
  replace z := ifB_t z
  refine W.t ?_
  refine W.r ?_
  refine WL.a (some 5) t0 h_2 ?_
  replace z := oS z; obtain ⟨t6, e8, z⟩ := z
  refine WL.b (some 6) t6 h_2 (nil_chk (h := h_2) e8) ?_
  replace z := oS z; obtain ⟨t7, e9, z⟩ := z
  refine WL.b (some 7) t7 h_2 (field_ptr (P := Pg) (h := h_2) (s := 70) (f := 1) (by kernel_rfl) e9) ?_
  replace z := oS z; obtain ⟨v8, e10, z⟩ := z
  replace z := oS z; obtain ⟨t8, c11, z⟩ := z
  have c11 := avInt_some c11
  subst c11
  refine WL.b (some 8) (.int .i64 t8) h_2 (load_cell (P := Pg) (h := h_2) (t := 3) (by kernel_rfl) e10) ?_
  replace z := callK_some z; rcases z with ⟨r9, h_12, e13, z⟩ | ⟨r9, h_12, e13, q14⟩
  ·refine WL.c (hc.ok w0) (some 9) e13 ?_
   refine WL.n ?_
   refine Go.weaken (l' := []) Fr.n ?_
   exact Go.weaken Fr.n (J6 _ z)
  ·obtain ⟨zq, zr⟩ := pan_inj q14; subst zq; subst zr
   exact WL.callPanic (hc.ok w0) (d := (some 9)) (by kernel_rfl) (by kernel_rfl) (by kernel_rfl) e13 Pan.fin
 | false =>
  replace z := ifB_f z
  refine W.f ?_
  refine W.skip (by kernel_rfl) ?_
  exact Go.weaken Fr.n (J6 _ z)
noncomputable def pattern_reader_end_fn (call : CallF) (n : Nat) : FnT := fun args h => match args with
 | [x0] => pattern_reader_end call n x0 h
 | _ => none
set_option maxRecDepth 100000 in
theorem pattern_reader_end_fn_eq (call : CallF) (n : Nat) (t0 : AV) (h : AHeap) : pattern_reader_end_fn call n [t0] h = pattern_reader_end call n t0 h :=
 rfl
theorem pattern_reader_end_holds {call : CallF} (hc : SaysAll Pg call) (n : Nat) : Holds Pg 62 (pattern_reader_end_fn call n) := by
 intro args h r h2 e
 unfold pattern_reader_end_fn at e
 split at e
 ·exact pattern_reader_end_ok hc e
 ·cases e
noncomputable def pattern_reader_next (call : CallF) (_ : Nat) (t0 : AV) (h : AHeap) : R :=
 callN (call 74 [t0] h) fun r4 h_4 =>
 obind (avBool r4) fun t4 =>
 lett (fun  (h_8 : AHeap) =>
  obind (nilC t0) fun t11 =>
  obind (fldP 1 t11) fun t12 =>
  obind (ldCell h_8 t12) fun v13 =>
  obind (avInt .i64 v13) fun t13 =>
  lett (IntKind.i64.wrap (t13 + 1)) fun (t14 : Int) =>
  obind (nilC t0) fun t15 =>
  obind (fldP 1 t15) fun t16 =>
  obind (stRow h_8 1 [.int .i64 t14] t16) fun h_17 =>
  obind (nilC t0) fun t18 =>
  obind (fldP 0 t18) fun t19 =>
  obind (ldCell h_17 t19) fun v20 =>
  obind (avStr v20) fun t20 =>
  obind (nilC t0) fun t22 =>
  obind (fldP 1 t22) fun t23 =>
  obind (ldCell h_17 t23) fun v24 =>
  obind (avInt .i64 v24) fun t24 =>
  lett (IntKind.i64.wrap (t24 - 1)) fun (t25 : Int) =>
  obind (idxS t20 t25) fun t26 =>
  some (.ret (.int .u8 t26), h_17)) fun k7 =>
 ifB t4
 (
  obind (nilC t0) fun t6 =>
  obind (fldP 1 t6) fun t7 =>
  obind (ldCell h_4 t7) fun v8 =>
  obind (avInt .i64 v8) fun t8 =>
  callK (call 57 [.int .i64 6, .int .i64 t8] h_4) fun _ h_34 =>
  k7 h_34)
 (
  k7 h_4)
theorem pattern_reader_next_ok {call : CallF} (hc : SaysAll Pg call) {n : Nat} {t0 : AV} {h : AHeap} {rR : ARes} {hR : AHeap} (z : pattern_reader_next call n t0 h = some (rR, hR)) : Says Pg 71 [t0] h rR hR := by
 unfold pattern_reader_next at z
 refine says_of (fn := Try.f71) Try.func71 (c := codeOf Try.f71) (by kernel_rfl) (by kernel_rfl) (fun w0 m0 => ?_)
 refine W.weaken (l' := [(0, t0)]) (Fr.c Fr.n) ?_
 refine W.s (fun _ n1 _ _ _ => ?_)
 refine W.r ?_
 refine WL.a (some 2) (.int .u8 0) h ?_
 refine WL.n ?_
 refine Go.weaken (l' := [(0, t0)]) (Fr.c Fr.n) ?_
 refine n1 ?_
 refine W.s (fun K2 n2 _ _ p2 => ?_)
 refine W.s (fun _ n3 _ _ _ => ?_)
 refine W.r ?_
 refine WL.a (some 3) t0 h ?_
 replace z := callN_some z; obtain ⟨r4, h_4, e5, z⟩ := z
 replace z := oS z; obtain ⟨t4, c6, z⟩ := z
 have c6 := avBool_some c6
 subst c6
 refine WL.c (hc.ok w0) (some 4) e5 ?_
 refine WL.n ?_
 refine Go.weaken (l' := [(0, t0), (4, .bool t4)]) (Fr.c (Fr.c Fr.n)) ?_
 refine n3 ?_
 replace z := lS z; obtain ⟨k7, e7, z⟩ := z
 have J7 : ∀  (h_8 : AHeap), k7 h_8 = some (rR, hR) → Go w0 m0 (Func.ntmps Try.f71) (K2 .normal) [(0, t0)] [] h_8 := by
  intro  h_8 z
  rw [e7] at z
  refine n2 ?_
  refine W.s (fun _ n9 _ _ _ => ?_)
  refine W.r ?_
  refine WL.a (some 10) t0 h_8 ?_
  replace z := oS z; obtain ⟨t11, e10, z⟩ := z
  refine WL.b (some 11) t11 h_8 (nil_chk (h := h_8) e10) ?_
  replace z := oS z; obtain ⟨t12, e11, z⟩ := z
  refine WL.b (some 12) t12 h_8 (field_ptr (P := Pg) (h := h_8) (s := 70) (f := 1) (by kernel_rfl) e11) ?_
  replace z := oS z; obtain ⟨v13, e12, z⟩ := z
  replace z := oS z; obtain ⟨t13, c13, z⟩ := z
  have c13 := avInt_some c13
  subst c13
  refine WL.b (some 13) (.int .i64 t13) h_8 (load_cell (P := Pg) (h := h_8) (t := 3) (by kernel_rfl) e12) ?_
  replace z := lS z; obtain ⟨t14, e14, z⟩ := z
  refine WL.val (d := (some 14)) (v := .int .i64 t14) (h' := h_8) (by kernel_rfl) (by kernel_rfl) (val_of (AV.int .i64) e14 (by kernel_rfl)) ?_
  replace z := oS z; obtain ⟨t15, e15, z⟩ := z
  refine WL.b (some 15) t15 h_8 (nil_chk (h := h_8) e15) ?_
  replace z := oS z; obtain ⟨t16, e16, z⟩ := z
  refine WL.b (some 16) t16 h_8 (field_ptr (P := Pg) (h := h_8) (s := 70) (f := 1) (by kernel_rfl) e16) ?_
  replace z := oS z; obtain ⟨h_17, e18, z⟩ := z
  refine WL.e h_17 (store_row (P := Pg) (h := h_8) (t := 3) (v := (.int .i64 t14)) (by kernel_rfl) (by kernel_rfl) e18) ?_
  refine WL.n ?_
  refine Go.weaken (l' := [(0, t0)]) (Fr.c Fr.n) ?_
  refine n9 ?_
  refine W.s (fun _ n19 _ _ _ => ?_)
  refine W.draw (by kernel_rfl) (hc.ok w0) (plan := [0, 1, 2, 3, 4, 5, 6, 7, 8, 9, 10]) (by kernel_rfl) (by kernel_rfl) (by kernel_rfl) ?_
  refine WD.a 0 (some 17) t0 h_17 ?_
  replace z := oS z; obtain ⟨t18, e20, z⟩ := z
  refine WD.b 0 (some 18) t18 h_17 (nil_chk (h := h_17) e20) ?_
  replace z := oS z; obtain ⟨t19, e21, z⟩ := z
  refine WD.b 0 (some 19) t19 h_17 (field_ptr (P := Pg) (h := h_17) (s := 70) (f := 0) (by kernel_rfl) e21) ?_
  replace z := oS z; obtain ⟨v20, e22, z⟩ := z
  replace z := oS z; obtain ⟨t20, c23, z⟩ := z
  have c23 := avStr_some c23
  subst c23
  refine WD.b 1 (some 20) (strA t20) h_17 (load_cell (P := Pg) (h := h_17) (t := 9) (by kernel_rfl) e22) ?_
  refine WD.a 0 (some 21) t0 h_17 ?_
  replace z := oS z; obtain ⟨t22, e24, z⟩ := z
  refine WD.b 0 (some 22) t22 h_17 (nil_chk (h := h_17) e24) ?_
  replace z := oS z; obtain ⟨t23, e25, z⟩ := z
  refine WD.b 0 (some 23) t23 h_17 (field_ptr (P := Pg) (h := h_17) (s := 70) (f := 1) (by kernel_rfl) e25) ?_
  replace z := oS z; obtain ⟨v24, e26, z⟩ := z
  replace z := oS z; obtain ⟨t24, c27, z⟩ := z
  have c27 := avInt_some c27
  subst c27
  refine WD.b 1 (some 24) (.int .i64 t24) h_17 (load_cell (P := Pg) (h := h_17) (t := 3) (by kernel_rfl) e26) ?_
  replace z := lS z; obtain ⟨t25, e28, z⟩ := z
  refine WD.val (d := (some 25)) (v := .int .i64 t25) (h' := h_17) (by kernel_rfl) (by kernel_rfl) (val_of (AV.int .i64) e28 (by kernel_rfl)) (k := 0) (by kernel_rfl) (fun e => absurd e (by decide)) (by decide) ?_
  replace z := oS z; obtain ⟨t26, e29, z⟩ := z
  refine WD.b 0 (some 26) (.int .u8 t26) h_17 (index_str (P := Pg) (h := h_17) (t := 9) (k := .i64) (by kernel_rfl) e29) ?_
  refine WD.a 0 (some 2) (.int .u8 t26) h_17 ?_
  refine WD.nil ?_
  refine Go.weaken (l' := [(2, .int .u8 t26)]) (Fr.c Fr.n) ?_
  refine n19 ?_
  refine W.ret (by kernel_rfl) ?_
  obtain ⟨z, hF2⟩ := ret_inj z; subst z; subst hF2
  exact leave_of (rs := [.tmp 2]) (vs := [.int .u8 t26]) (by kernel_rfl) (res_tmp (by kernel_rfl) res_nil) (by kernel_rfl)
 cases t4 with
 | true =>
  replace z := ifB_t z
  refine W.t ?_
  refine W.r ?_
  refine WL.a (some 5) t0 h_4 ?_
  replace z := oS z; obtain ⟨t6, e30, z⟩ := z
  refine WL.b (some 6) t6 h_4 (nil_chk (h := h_4) e30) ?_
  replace z := oS z; obtain ⟨t7, e31, z⟩ := z
  refine WL.b (some 7) t7 h_4 (field_ptr (P := Pg) (h := h_4) (s := 70) (f := 1) (by kernel_rfl) e31) ?_
  replace z := oS z; obtain ⟨v8, e32, z⟩ := z
  replace z := oS z; obtain ⟨t8, c33, z⟩ := z
  have c33 := avInt_some c33
  subst c33
  refine WL.b (some 8) (.int .i64 t8) h_4 (load_cell (P := Pg) (h := h_4) (t := 3) (by kernel_rfl) e32) ?_
  replace z := callK_some z; rcases z with ⟨r9, h_34, e35, z⟩ | ⟨r9, h_34, e35, q36⟩
  ·refine WL.c (hc.ok w0) (some 9) e35 ?_
   refine WL.n ?_
   refine Go.weaken (l' := [(0, t0)]) (Fr.c Fr.n) ?_
   exact Go.weaken (Fr.c Fr.n) (J7 _ z)
  ·obtain ⟨zq, zr⟩ := pan_inj q36; subst zq; subst zr
   exact WL.callPanic (hc.ok w0) (d := (some 9)) (by kernel_rfl) (by kernel_rfl) (by kernel_rfl) e35 (p2 Pan.fin)
 | false =>
  replace z := ifB_f z
  refine W.f ?_
  refine W.skip (by kernel_rfl) ?_
  exact Go.weaken (Fr.c Fr.n) (J7 _ z)
noncomputable def pattern_reader_next_fn (call : CallF) (n : Nat) : FnT := fun args h => match args with
 | [x0] => pattern_reader_next call n x0 h
 | _ => none
set_option maxRecDepth 100000 in
theorem pattern_reader_next_fn_eq (call : CallF) (n : Nat) (t0 : AV) (h : AHeap) : pattern_reader_next_fn call n [t0] h = pattern_reader_next call n t0 h :=
 rfl
theorem pattern_reader_next_holds {call : CallF} (hc : SaysAll Pg call) (n : Nat) : Holds Pg 71 (pattern_reader_next_fn call n) := by
 intro args h r h2 e
 unfold pattern_reader_next_fn at e
 split at e
 ·exact pattern_reader_next_ok hc e
 ·cases e
noncomputable def pattern_reader_refuseLast (call : CallF) (_ : Nat) (t0 : AV) (h : AHeap) : R :=
 obind (nilC t0) fun t3 =>
 obind (fldP 1 t3) fun t4 =>
 obind (ldCell h t4) fun v5 =>
 obind (avInt .i64 v5) fun t5 =>
 lett (IntKind.i64.wrap (t5 - 1)) fun (t6 : Int) =>
 callK (call 57 [.int .i64 6, .int .i64 t6] h) fun _ h_6 =>
 some (.ret (.tup []), h_6)
theorem pattern_reader_refuseLast_ok {call : CallF} (hc : SaysAll Pg call) {n : Nat} {t0 : AV} {h : AHeap} {rR : ARes} {hR : AHeap} (z : pattern_reader_refuseLast call n t0 h = some (rR, hR)) : Says Pg 72 [t0] h rR hR := by
 unfold pattern_reader_refuseLast at z
 refine says_of (fn := Try.f72) Try.func72 (c := codeOf Try.f72) (by kernel_rfl) (by kernel_rfl) (fun w0 m0 => ?_)
 refine W.weaken (l' := [(0, t0)]) (Fr.c Fr.n) ?_
 refine W.r ?_
 refine WL.a (some 2) t0 h ?_
 replace z := oS z; obtain ⟨t3, e1, z⟩ := z
 refine WL.b (some 3) t3 h (nil_chk (h := h) e1) ?_
 replace z := oS z; obtain ⟨t4, e2, z⟩ := z
 refine WL.b (some 4) t4 h (field_ptr (P := Pg) (h := h) (s := 70) (f := 1) (by kernel_rfl) e2) ?_
 replace z := oS z; obtain ⟨v5, e3, z⟩ := z
 replace z := oS z; obtain ⟨t5, c4, z⟩ := z
 have c4 := avInt_some c4
 subst c4
 refine WL.b (some 5) (.int .i64 t5) h (load_cell (P := Pg) (h := h) (t := 3) (by kernel_rfl) e3) ?_
 replace z := lS z; obtain ⟨t6, e5, z⟩ := z
 refine WL.val (d := (some 6)) (v := .int .i64 t6) (h' := h) (by kernel_rfl) (by kernel_rfl) (val_of (AV.int .i64) e5 (by kernel_rfl)) ?_
 replace z := callK_some z; rcases z with ⟨r7, h_6, e7, z⟩ | ⟨r7, h_6, e7, q8⟩
 ·refine WL.c (hc.ok w0) (some 7) e7 ?_
  refine WL.n ?_
  refine Go.weaken (l' := []) Fr.n ?_
  obtain ⟨z, hF2⟩ := ret_inj z; subst z; subst hF2
  exact leaveN_of (rs := []) (vs := []) (by kernel_rfl) res_nil (by kernel_rfl)
 ·obtain ⟨zq, zr⟩ := pan_inj q8; subst zq; subst zr
  exact WL.callPanic (hc.ok w0) (d := (some 7)) (by kernel_rfl) (by kernel_rfl) (by kernel_rfl) e7 Pan.fin
noncomputable def pattern_reader_refuseLast_fn (call : CallF) (n : Nat) : FnT := fun args h => match args with
 | [x0] => pattern_reader_refuseLast call n x0 h
 | _ => none
set_option maxRecDepth 100000 in
theorem pattern_reader_refuseLast_fn_eq (call : CallF) (n : Nat) (t0 : AV) (h : AHeap) : pattern_reader_refuseLast_fn call n [t0] h = pattern_reader_refuseLast call n t0 h :=
 rfl
theorem pattern_reader_refuseLast_holds {call : CallF} (hc : SaysAll Pg call) (n : Nat) : Holds Pg 72 (pattern_reader_refuseLast_fn call n) := by
 intro args h r h2 e
 unfold pattern_reader_refuseLast_fn at e
 split at e
 ·exact pattern_reader_refuseLast_ok hc e
 ·cases e
noncomputable def pattern_refuse (_ : CallF) (_ : Nat) (t0 : Int) (t1 : Int) (h : AHeap) : R :=
 obind (bldS Pg 91 [(0, .agg ([.int .i64 t0, .int .i64 t1] : List AV))]) fun t7 =>
 panK (AV.ifc 91 (.agg t7)) h
theorem pattern_refuse_ok {call : CallF} (_ : SaysAll Pg call) {n : Nat} {t0 : Int} {t1 : Int} {h : AHeap} {rR : ARes} {hR : AHeap} (z : pattern_refuse call n t0 t1 h = some (rR, hR)) : Says Pg 57 [.int .i64 t0, .int .i64 t1] h rR hR := by
 unfold pattern_refuse at z
 refine says_of (fn := Try.f57) Try.func57 (c := codeOf Try.f57) (by kernel_rfl) (by kernel_rfl) (fun w0 m0 => ?_)
 refine W.weaken (l' := [(0, .int .i64 t0), (1, .int .i64 t1)]) (Fr.c (Fr.c Fr.n)) ?_
 refine W.r ?_
 refine WL.a (some 4) (.int .i64 t0) h ?_
 refine WL.a (some 5) (.int .i64 t1) h ?_
 refine WL.a (some 6) (.agg ([.int .i64 t0, .int .i64 t1] : List AV)) h ?_
 replace z := oS z; obtain ⟨t7, e1, z⟩ := z
 refine WL.val (d := (some 7)) (v := .agg t7) (h' := h) (by kernel_rfl) (by kernel_rfl) (bld_ok (by kernel_rfl) e1) ?_
 refine WL.a (some 8) (AV.ifc 91 (.agg t7)) h ?_
 replace z := panK_some z; obtain ⟨a3t, a3v, e2, e22⟩ := z
 cases e22
 exact WL.pan (d := none) (by kernel_rfl) (by kernel_rfl) (Eq.trans (by kernel_rfl) (congrArg (fun x => opPanic _ (some x)) e2)) Pan.fin
noncomputable def pattern_refuse_fn (call : CallF) (n : Nat) : FnT := fun args h => match args with
 | [x0, x1] => obind (avInt .i64 x0) fun t0 => obind (avInt .i64 x1) fun t1 => pattern_refuse call n t0 t1 h
 | _ => none
set_option maxRecDepth 100000 in
theorem pattern_refuse_fn_eq (call : CallF) (n : Nat) (t0 : Int) (t1 : Int) (h : AHeap) : pattern_refuse_fn call n [.int .i64 t0, .int .i64 t1] h = pattern_refuse call n t0 t1 h :=
 (Eq.trans (obind_eq (fun t0 => obind (avInt .i64 (.int .i64 t1)) fun t1 => pattern_refuse call n t0 t1 h) (avInt_int .i64 t0)) (Eq.trans (obind_eq (fun t1 => pattern_refuse call n t0 t1 h) (avInt_int .i64 t1)) rfl))
theorem pattern_refuse_holds {call : CallF} (hc : SaysAll Pg call) (n : Nat) : Holds Pg 57 (pattern_refuse_fn call n) := by
 intro args h r h2 e
 unfold pattern_refuse_fn at e
 split at e
 ·replace e := oS e; obtain ⟨t0, c0, e⟩ := e; have c0 := avInt_some c0; subst c0
  replace e := oS e; obtain ⟨t1, c1, e⟩ := e; have c1 := avInt_some c1; subst c1
  exact pattern_refuse_ok hc e
 ·cases e
set_option maxHeartbeats 4000000
set_option maxRecDepth 20000
noncomputable def pattern_Tree (call : CallF) (_ : Nat) (t0 : List AV) (h : AHeap) : R :=
 outK (opBox h 35 (some (.agg t0))) fun v1 h_2 =>
 lett (newH h_2 41 [.int .i64 0, .int .u64 0, .int .u64 0, .int .u64 0, .int .u64 0, .nsl]) fun h_4 =>
 lett (newH h_4 27 [.int .i64 0, .int .i64 0]) fun h_6 =>
 obind (fldP 0 v1) fun t5 =>
 obind (ldCell h_6 t5) fun v6 =>
 obind (avInt .i64 v6) fun t6 =>
 lett ((t6 : Int) != 1) fun (t7 : Bool) =>
 lett (fun (t12 : Bool) (h_14 : AHeap) =>
  lett (fun (t17 : Bool) (h_17 : AHeap) =>
   ifB t17
   (
    obind (stRow h_17 6 ([.int .i64 0, .int .u64 0, .int .u64 0, .int .u64 0, .int .u64 0, .nsl] : List AV) (newP h_2)) fun h_21 =>
    obind (stRow h_21 2 ([.int .i64 2, .int .i64 0] : List AV) (newP h_4)) fun h_23 =>
    obind (ldRow h_23 6 (newP h_2)) fun w2 =>
    obind (ldRow h_23 2 (newP h_4)) fun w3 =>
    some (.ret (.tup [.agg w2, .agg w3]), h_23))
   (
    obind (fldP 1 v1) fun t20 =>
    obind (ldCell h_17 t20) fun v21 =>
    obind (avStr v21) fun t21 =>
    lett (decide ((lenS t21) > 64)) fun (t23 : Bool) =>
    ifB t23
    (
     obind (stRow h_17 6 ([.int .i64 0, .int .u64 0, .int .u64 0, .int .u64 0, .int .u64 0, .nsl] : List AV) (newP h_2)) fun h_34 =>
     obind (stRow h_34 2 ([.int .i64 3, .int .i64 64] : List AV) (newP h_4)) fun h_36 =>
     obind (ldRow h_36 6 (newP h_2)) fun w2_39 =>
     obind (ldRow h_36 2 (newP h_4)) fun w3_41 =>
     some (.ret (.tup [.agg w2_39, .agg w3_41]), h_36))
    (
     obind (fldP 1 v1) fun t26 =>
     obind (ldCell h_17 t26) fun v27 =>
     obind (avStr v27) fun t27 =>
     outK (opBox h_17 70 (some (.agg ([strA t27, .int .i64 0] : List AV)))) fun v29 h_46 =>
     lett (newH h_46 68 [.nilp]) fun h_48 =>
     obind (stRow h_48 1 (AV.cells v29) (newP h_46)) fun h_50 =>
     callN (call 35 [(AV.fn 39 [] [(newP h_46), v1, (newP h_2)])] h_50) fun r31 h_53 =>
     obind (avAgg r31) fun t31 =>
     obind (stRow h_53 2 t31 (newP h_4)) fun h_56 =>
     obind (ldCell h_56 (AV.ptr (AHeap.next h_4) 0)) fun v33 =>
     obind (avInt .i64 v33) fun t33 =>
     lett ((t33 : Int) != 0) fun (t34 : Bool) =>
     ifB t34
     (
      obind (ldRow h_56 2 (newP h_4)) fun t36 =>
      obind (stRow h_56 6 ([.int .i64 0, .int .u64 0, .int .u64 0, .int .u64 0, .int .u64 0, .nsl] : List AV) (newP h_2)) fun h_65 =>
      chk (reLoad Pg h_65 27 (newP h_4) (.agg t36) && true) <|
      obind (stRow h_65 2 t36 (newP h_4)) fun h_68 =>
      obind (ldRow h_68 6 (newP h_2)) fun w2_71 =>
      obind (ldRow h_68 2 (newP h_4)) fun w3_73 =>
      some (.ret (.tup [.agg w2_71, .agg w3_73]), h_68))
     (
      obind (ldRow h_56 6 (newP h_2)) fun t37 =>
      obind (ldRow h_56 2 (newP h_4)) fun t38 =>
      obind (stRow h_56 6 t37 (newP h_2)) fun h_77 =>
      chk (reLoad Pg h_77 27 (newP h_4) (.agg t38) && (true && true)) <|
      obind (stRow h_77 2 t38 (newP h_4)) fun h_80 =>
      obind (ldRow h_80 6 (newP h_2)) fun w2_83 =>
      obind (ldRow h_80 2 (newP h_4)) fun w3_85 =>
      some (.ret (.tup [.agg w2_83, .agg w3_85]), h_80))))) fun j17 =>
  ifB t12
  (
   obind (fldP 0 v1) fun t14 =>
   obind (ldCell h_14 t14) fun v15 =>
   obind (avInt .i64 v15) fun t15 =>
   lett ((t15 : Int) != 3) fun (t16 : Bool) =>
   j17 t16 h_14)
  (
   j17 false h_14)) fun j12 =>
 ifB t7
 (
  obind (fldP 0 v1) fun t9 =>
  obind (ldCell h_6 t9) fun v10 =>
  obind (avInt .i64 v10) fun t10 =>
  lett ((t10 : Int) != 2) fun (t11 : Bool) =>
  j12 t11 h_6)
 (
  j12 false h_6)
theorem pattern_Tree_ok {call : CallF} (hc : SaysAll Pg call) {n : Nat} {t0 : List AV} {h : AHeap} {rR : ARes} {hR : AHeap} (z : pattern_Tree call n t0 h = some (rR, hR)) : Says Pg 21 [.agg t0] h rR hR := by
 unfold pattern_Tree at z
 refine says_of (fn := Try.f21) Try.func21 (c := codeOf Try.f21) (by kernel_rfl) (by kernel_rfl) (fun w0 m0 => ?_)
 refine W.weaken (l' := [(0, .agg t0)]) (Fr.c Fr.n) ?_
 refine W.s (fun _ n1 _ _ p1 => ?_)
 refine W.r ?_
 replace z := outK_some z; obtain ⟨v1, h_2, e3, z⟩ := z
 refine WL.b (some 1) v1 h_2 e3 ?_
 replace z := lS z; obtain ⟨h_4, e5, z⟩ := z
 refine WL.val (d := (some 2)) (v := (newP h_2)) (h' := h_4) (by kernel_rfl) (by kernel_rfl) (val_ofH e5 (by kernel_rfl)) ?_
 replace z := lS z; obtain ⟨h_6, e7, z⟩ := z
 refine WL.val (d := (some 3)) (v := (newP h_4)) (h' := h_6) (by kernel_rfl) (by kernel_rfl) (val_ofH e7 (by kernel_rfl)) ?_
 refine WL.n ?_
 refine Go.weaken (l' := [(1, v1), (2, newP h_2), (3, newP h_4)]) (Fr.c (Fr.c (Fr.c Fr.n))) ?_
 refine n1 ?_
 refine W.s (fun _ n8 _ q8 _ => ?_)
 refine W.s (fun K9 n9 _ _ _ => ?_)
 refine W.r ?_
 replace z := oS z; obtain ⟨t5, e10, z⟩ := z
 refine WL.b (some 5) t5 h_6 (field_ptr (P := Pg) (h := h_6) (s := 35) (f := 0) (by kernel_rfl) e10) ?_
 replace z := oS z; obtain ⟨v6, e11, z⟩ := z
 replace z := oS z; obtain ⟨t6, c12, z⟩ := z
 have c12 := avInt_some c12
 subst c12
 refine WL.b (some 6) (.int .i64 t6) h_6 (load_cell (P := Pg) (h := h_6) (t := 3) (by kernel_rfl) e11) ?_
 replace z := lS z; obtain ⟨t7, e13, z⟩ := z
 refine WL.val (d := (some 7)) (v := .bool t7) (h' := h_6) (by kernel_rfl) (by kernel_rfl) (val_of AV.bool e13 (by kernel_rfl)) ?_
 refine WL.a (some 8) (.bool t7) h_6 ?_
 replace z := lS z; obtain ⟨j12, e15, z⟩ := z
 have J16 : ∀ (t12 : Bool) (h_14 : AHeap), j12 t12 h_14 = some (rR, hR) → WL Pg w0 m0 (Func.ntmps Try.f21) (Code.ops (Code.p1 (Code.p1 (Code.p2 (codeOf Try.f21))))) 8 K9 [(1, v1), (2, newP h_2), (3, newP h_4), (12, .bool t12)] [] h_14 := by
  intro t12 h_14 z
  rw [e15] at z
  refine WL.a (some 13) (.bool t12) h_14 ?_
  replace z := lS z; obtain ⟨j17, e18, z⟩ := z
  have J19 : ∀ (t17 : Bool) (h_17 : AHeap), j17 t17 h_17 = some (rR, hR) → WL Pg w0 m0 (Func.ntmps Try.f21) (Code.ops (Code.p1 (Code.p1 (Code.p2 (codeOf Try.f21))))) 13 K9 [(1, v1), (2, newP h_2), (3, newP h_4), (17, .bool t17)] [] h_17 := by
   intro t17 h_17 z
   rw [e18] at z
   refine WL.n ?_
   refine Go.weaken (l' := [(1, v1), (2, newP h_2), (3, newP h_4), (17, .bool t17)]) (Fr.c (Fr.c (Fr.c (Fr.c Fr.n)))) ?_
   refine n9 ?_
   cases t17 with
   | true =>
    replace z := ifB_t z
    refine W.t ?_
    refine W.s (fun _ n20 _ _ _ => ?_)
    refine W.r ?_
    refine WL.a (some 18) (.agg ([.int .i64 0, .int .u64 0, .int .u64 0, .int .u64 0, .int .u64 0, .nsl] : List AV)) h_17 ?_
    refine WL.a (some 19) (.agg ([.int .i64 2, .int .i64 0] : List AV)) h_17 ?_
    replace z := oS z; obtain ⟨h_21, e22, z⟩ := z
    refine WL.e h_21 (store_row (P := Pg) (h := h_17) (t := 41) (v := (.agg ([.int .i64 0, .int .u64 0, .int .u64 0, .int .u64 0, .int .u64 0, .nsl] : List AV))) (by kernel_rfl) (by kernel_rfl) e22) ?_
    replace z := oS z; obtain ⟨h_23, e24, z⟩ := z
    refine WL.e h_23 (store_row (P := Pg) (h := h_21) (t := 27) (v := (.agg ([.int .i64 2, .int .i64 0] : List AV))) (by kernel_rfl) (by kernel_rfl) e24) ?_
    refine WL.n ?_
    refine Go.weaken (l' := [(2, newP h_2), (3, newP h_4)]) (Fr.c (Fr.c Fr.n)) ?_
    refine n20 ?_
    refine W.ret (by kernel_rfl) ?_
    refine q8 ?_
    replace z := oS z; obtain ⟨w2, e25, z⟩ := z
    replace z := oS z; obtain ⟨w3, e26, z⟩ := z
    obtain ⟨z, hF2⟩ := ret_inj z; subst z; subst hF2
    exact leave_of (rs := [.cell 2 41, .cell 3 27]) (vs := [.agg w2, .agg w3]) (by kernel_rfl) (res_cell (by kernel_rfl) (load_row (P := Pg) (h := h_23) (t := 41) (by kernel_rfl) (by kernel_rfl) e25) (res_cell (by kernel_rfl) (load_row (P := Pg) (h := h_23) (t := 27) (by kernel_rfl) (by kernel_rfl) e26) res_nil)) (by kernel_rfl)
   | false =>
    replace z := ifB_f z
    refine W.f ?_
    refine W.skip (by kernel_rfl) ?_
    refine n8 ?_
    refine W.s (fun _ n27 _ q27 _ => ?_)
    refine W.s (fun _ n28 _ _ _ => ?_)
    refine W.r ?_
    replace z := oS z; obtain ⟨t20, e29, z⟩ := z
    refine WL.b (some 20) t20 h_17 (field_ptr (P := Pg) (h := h_17) (s := 35) (f := 1) (by kernel_rfl) e29) ?_
    replace z := oS z; obtain ⟨v21, e30, z⟩ := z
    replace z := oS z; obtain ⟨t21, c31, z⟩ := z
    have c31 := avStr_some c31
    subst c31
    refine WL.b (some 21) (strA t21) h_17 (load_cell (P := Pg) (h := h_17) (t := 9) (by kernel_rfl) e30) ?_
    refine WL.a (some 22) (.int .i64 (lenS t21)) h_17 ?_
    replace z := lS z; obtain ⟨t23, e32, z⟩ := z
    refine WL.val (d := (some 23)) (v := .bool t23) (h' := h_17) (by kernel_rfl) (by kernel_rfl) (val_of AV.bool e32 (by kernel_rfl)) ?_
    refine WL.n ?_
    refine Go.weaken (l' := [(1, v1), (2, newP h_2), (3, newP h_4), (23, .bool t23)]) (Fr.c (Fr.c (Fr.c (Fr.c Fr.n)))) ?_
    refine n28 ?_
    cases t23 with
    | true =>
     replace z := ifB_t z
     refine W.t ?_
     refine W.s (fun _ n33 _ _ _ => ?_)
     refine W.r ?_
     refine WL.a (some 24) (.agg ([.int .i64 0, .int .u64 0, .int .u64 0, .int .u64 0, .int .u64 0, .nsl] : List AV)) h_17 ?_
     refine WL.a (some 25) (.agg ([.int .i64 3, .int .i64 64] : List AV)) h_17 ?_
     replace z := oS z; obtain ⟨h_34, e35, z⟩ := z
     refine WL.e h_34 (store_row (P := Pg) (h := h_17) (t := 41) (v := (.agg ([.int .i64 0, .int .u64 0, .int .u64 0, .int .u64 0, .int .u64 0, .nsl] : List AV))) (by kernel_rfl) (by kernel_rfl) e35) ?_
     replace z := oS z; obtain ⟨h_36, e37, z⟩ := z
     refine WL.e h_36 (store_row (P := Pg) (h := h_34) (t := 27) (v := (.agg ([.int .i64 3, .int .i64 64] : List AV))) (by kernel_rfl) (by kernel_rfl) e37) ?_
     refine WL.n ?_
     refine Go.weaken (l' := [(2, newP h_2), (3, newP h_4)]) (Fr.c (Fr.c Fr.n)) ?_
     refine n33 ?_
     refine W.ret (by kernel_rfl) ?_
     refine q27 ?_
     replace z := oS z; obtain ⟨w2_39, e38, z⟩ := z
     replace z := oS z; obtain ⟨w3_41, e40, z⟩ := z
     obtain ⟨z, hF2⟩ := ret_inj z; subst z; subst hF2
     exact leave_of (rs := [.cell 2 41, .cell 3 27]) (vs := [.agg w2_39, .agg w3_41]) (by kernel_rfl) (res_cell (by kernel_rfl) (load_row (P := Pg) (h := h_36) (t := 41) (by kernel_rfl) (by kernel_rfl) e38) (res_cell (by kernel_rfl) (load_row (P := Pg) (h := h_36) (t := 27) (by kernel_rfl) (by kernel_rfl) e40) res_nil)) (by kernel_rfl)
    | false =>
     replace z := ifB_f z
     refine W.f ?_
     refine W.skip (by kernel_rfl) ?_
     refine n27 ?_
     refine W.s (fun _ n42 _ _ _ => ?_)
     refine W.r ?_
     replace z := oS z; obtain ⟨t26, e43, z⟩ := z
     refine WL.b (some 26) t26 h_17 (field_ptr (P := Pg) (h := h_17) (s := 35) (f := 1) (by kernel_rfl) e43) ?_
     replace z := oS z; obtain ⟨v27, e44, z⟩ := z
     replace z := oS z; obtain ⟨t27, c45, z⟩ := z
     have c45 := avStr_some c45
     subst c45
     refine WL.b (some 27) (strA t27) h_17 (load_cell (P := Pg) (h := h_17) (t := 9) (by kernel_rfl) e44) ?_
     refine WL.a (some 28) (.agg ([strA t27, .int .i64 0] : List AV)) h_17 ?_
     replace z := outK_some z; obtain ⟨v29, h_46, e47, z⟩ := z
     refine WL.b (some 29) v29 h_46 e47 ?_
     replace z := lS z; obtain ⟨h_48, e49, z⟩ := z
     refine WL.val (d := (some 4)) (v := (newP h_46)) (h' := h_48) (by kernel_rfl) (by kernel_rfl) (val_ofH e49 (by kernel_rfl)) ?_
     replace z := oS z; obtain ⟨h_50, e51, z⟩ := z
     refine WL.e h_50 (store_row (P := Pg) (h := h_48) (t := 68) (v := v29) (by kernel_rfl) (by kernel_rfl) e51) ?_
     refine WL.n ?_
     refine Go.weaken (l' := [(1, v1), (2, newP h_2), (3, newP h_4), (4, newP h_46)]) (Fr.c (Fr.c (Fr.c (Fr.c Fr.n)))) ?_
     refine n42 ?_
     refine W.s (fun _ n52 _ _ _ => ?_)
     refine W.r ?_
     refine WL.a (some 30) (AV.fn 39 [] [(newP h_46), v1, (newP h_2)]) h_50 ?_
     replace z := callN_some z; obtain ⟨r31, h_53, e54, z⟩ := z
     replace z := oS z; obtain ⟨t31, c55, z⟩ := z
     have c55 := avAgg_some c55
     subst c55
     refine WL.c (hc.ok w0) (some 31) e54 ?_
     replace z := oS z; obtain ⟨h_56, e57, z⟩ := z
     refine WL.e h_56 (store_row (P := Pg) (h := h_53) (t := 27) (v := (.agg t31)) (by kernel_rfl) (by kernel_rfl) e57) ?_
     refine WL.n ?_
     refine Go.weaken (l' := [(2, newP h_2), (3, newP h_4)]) (Fr.c (Fr.c Fr.n)) ?_
     refine n52 ?_
     refine W.s (fun _ n58 _ q58 _ => ?_)
     refine W.s (fun _ n59 _ _ _ => ?_)
     refine W.r ?_
     refine WL.a (some 32) (AV.ptr (AHeap.next h_4) 0) h_56 ?_
     replace z := oS z; obtain ⟨v33, e60, z⟩ := z
     replace z := oS z; obtain ⟨t33, c61, z⟩ := z
     have c61 := avInt_some c61
     subst c61
     refine WL.b (some 33) (.int .i64 t33) h_56 (load_cell (P := Pg) (h := h_56) (t := 25) (by kernel_rfl) e60) ?_
     replace z := lS z; obtain ⟨t34, e62, z⟩ := z
     refine WL.val (d := (some 34)) (v := .bool t34) (h' := h_56) (by kernel_rfl) (by kernel_rfl) (val_of AV.bool e62 (by kernel_rfl)) ?_
     refine WL.n ?_
     refine Go.weaken (l' := [(2, newP h_2), (3, newP h_4), (34, .bool t34)]) (Fr.c (Fr.c (Fr.c Fr.n))) ?_
     refine n59 ?_
     cases t34 with
     | true =>
      replace z := ifB_t z
      refine W.t ?_
      refine W.s (fun _ n63 _ _ _ => ?_)
      refine W.draw (by kernel_rfl) (hc.ok w0) (plan := [0, 1, 2, 3]) (by kernel_rfl) (by kernel_rfl) (by kernel_rfl) ?_
      refine WD.a 0 (some 35) (.agg ([.int .i64 0, .int .u64 0, .int .u64 0, .int .u64 0, .int .u64 0, .nsl] : List AV)) h_56 ?_
      replace z := oS z; obtain ⟨t36, e64, z⟩ := z
      refine WD.b 1 (some 36) (.agg t36) h_56 (load_row (P := Pg) (h := h_56) (t := 27) (by kernel_rfl) (by kernel_rfl) e64) ?_
      replace z := oS z; obtain ⟨h_65, e66, z⟩ := z
      replace z := chk_some z; obtain ⟨k67, z⟩ := z
      refine WD.eff (h' := h_65) (by kernel_rfl) (by kernel_rfl) (Eq.trans (by kernel_rfl) (store_row (P := Pg) (h := h_56) (t := 41) (v := (.agg ([.int .i64 0, .int .u64 0, .int .u64 0, .int .u64 0, .int .u64 0, .nsl] : List AV))) (by kernel_rfl) (by kernel_rfl) e66)) (k := 2) (by kernel_rfl) (fun _ => (Eq.trans (by kernel_rfl) k67)) (by decide) ?_
      replace z := oS z; obtain ⟨h_68, e69, z⟩ := z
      refine WD.eff (h' := h_68) (by kernel_rfl) (by kernel_rfl) (Eq.trans (by kernel_rfl) (store_row (P := Pg) (h := h_65) (t := 27) (v := (.agg t36)) (by kernel_rfl) (by kernel_rfl) e69)) (k := 2) (by kernel_rfl) (fun _ => (by kernel_rfl)) (by decide) ?_
      refine WD.nil ?_
      refine Go.weaken (l' := [(2, newP h_2), (3, newP h_4)]) (Fr.c (Fr.c Fr.n)) ?_
      refine n63 ?_
      refine W.ret (by kernel_rfl) ?_
      refine q58 ?_
      replace z := oS z; obtain ⟨w2_71, e70, z⟩ := z
      replace z := oS z; obtain ⟨w3_73, e72, z⟩ := z
      obtain ⟨z, hF2⟩ := ret_inj z; subst z; subst hF2
      exact leave_of (rs := [.cell 2 41, .cell 3 27]) (vs := [.agg w2_71, .agg w3_73]) (by kernel_rfl) (res_cell (by kernel_rfl) (load_row (P := Pg) (h := h_68) (t := 41) (by kernel_rfl) (by kernel_rfl) e70) (res_cell (by kernel_rfl) (load_row (P := Pg) (h := h_68) (t := 27) (by kernel_rfl) (by kernel_rfl) e72) res_nil)) (by kernel_rfl)
     | false =>
      replace z := ifB_f z
      refine W.f ?_
      refine W.skip (by kernel_rfl) ?_
      refine n58 ?_
      refine W.s (fun _ n74 _ _ _ => ?_)
      refine W.draw (by kernel_rfl) (hc.ok w0) (plan := [0, 1, 2, 3]) (by kernel_rfl) (by kernel_rfl) (by kernel_rfl) ?_
      replace z := oS z; obtain ⟨t37, e75, z⟩ := z
      refine WD.b 1 (some 37) (.agg t37) h_56 (load_row (P := Pg) (h := h_56) (t := 41) (by kernel_rfl) (by kernel_rfl) e75) ?_
      replace z := oS z; obtain ⟨t38, e76, z⟩ := z
      refine WD.b 1 (some 38) (.agg t38) h_56 (load_row (P := Pg) (h := h_56) (t := 27) (by kernel_rfl) (by kernel_rfl) e76) ?_
      replace z := oS z; obtain ⟨h_77, e78, z⟩ := z
      replace z := chk_some z; obtain ⟨k79, z⟩ := z
      refine WD.eff (h' := h_77) (by kernel_rfl) (by kernel_rfl) (Eq.trans (by kernel_rfl) (store_row (P := Pg) (h := h_56) (t := 41) (v := (.agg t37)) (by kernel_rfl) (by kernel_rfl) e78)) (k := 2) (by kernel_rfl) (fun _ => (Eq.trans (by kernel_rfl) k79)) (by decide) ?_
      replace z := oS z; obtain ⟨h_80, e81, z⟩ := z
      refine WD.eff (h' := h_80) (by kernel_rfl) (by kernel_rfl) (Eq.trans (by kernel_rfl) (store_row (P := Pg) (h := h_77) (t := 27) (v := (.agg t38)) (by kernel_rfl) (by kernel_rfl) e81)) (k := 2) (by kernel_rfl) (fun _ => (by kernel_rfl)) (by decide) ?_
      refine WD.nil ?_
      refine Go.weaken (l' := [(2, newP h_2), (3, newP h_4)]) (Fr.c (Fr.c Fr.n)) ?_
      refine n74 ?_
      refine W.ret (by kernel_rfl) ?_
      replace z := oS z; obtain ⟨w2_83, e82, z⟩ := z
      replace z := oS z; obtain ⟨w3_85, e84, z⟩ := z
      obtain ⟨z, hF2⟩ := ret_inj z; subst z; subst hF2
      exact leave_of (rs := [.cell 2 41, .cell 3 27]) (vs := [.agg w2_83, .agg w3_85]) (by kernel_rfl) (res_cell (by kernel_rfl) (load_row (P := Pg) (h := h_80) (t := 41) (by kernel_rfl) (by kernel_rfl) e82) (res_cell (by kernel_rfl) (load_row (P := Pg) (h := h_80) (t := 27) (by kernel_rfl) (by kernel_rfl) e84) res_nil)) (by kernel_rfl)
  cases t12 with
  | true =>
   replace z := ifB_t z
   replace z := oS z; obtain ⟨t14, e86, z⟩ := z
   refine WL.b (some 14) t14 h_14 (field_ptr (P := Pg) (h := h_14) (s := 35) (f := 0) (by kernel_rfl) e86) ?_
   replace z := oS z; obtain ⟨v15, e87, z⟩ := z
   replace z := oS z; obtain ⟨t15, c88, z⟩ := z
   have c88 := avInt_some c88
   subst c88
   refine WL.b (some 15) (.int .i64 t15) h_14 (load_cell (P := Pg) (h := h_14) (t := 3) (by kernel_rfl) e87) ?_
   replace z := lS z; obtain ⟨t16, e89, z⟩ := z
   refine WL.val (d := (some 16)) (v := .bool t16) (h' := h_14) (by kernel_rfl) (by kernel_rfl) (val_of AV.bool e89 (by kernel_rfl)) ?_
   refine WL.a (some 17) (.bool t16) h_14 ?_
   exact WL.weaken (Fr.c (Fr.c (Fr.c (Fr.c Fr.n)))) (J19 _ _ z)
  | false =>
   replace z := ifB_f z
   refine WL.o (some 14) ?_
   refine WL.o (some 15) ?_
   refine WL.o (some 16) ?_
   refine WL.a (some 17) (.bool false) h_14 ?_
   exact WL.weaken (Fr.c (Fr.c (Fr.c (Fr.c Fr.n)))) (J19 _ _ z)
 cases t7 with
 | true =>
  replace z := ifB_t z
  replace z := oS z; obtain ⟨t9, e90, z⟩ := z
  refine WL.b (some 9) t9 h_6 (field_ptr (P := Pg) (h := h_6) (s := 35) (f := 0) (by kernel_rfl) e90) ?_
  replace z := oS z; obtain ⟨v10, e91, z⟩ := z
  replace z := oS z; obtain ⟨t10, c92, z⟩ := z
  have c92 := avInt_some c92
  subst c92
  refine WL.b (some 10) (.int .i64 t10) h_6 (load_cell (P := Pg) (h := h_6) (t := 3) (by kernel_rfl) e91) ?_
  replace z := lS z; obtain ⟨t11, e93, z⟩ := z
  refine WL.val (d := (some 11)) (v := .bool t11) (h' := h_6) (by kernel_rfl) (by kernel_rfl) (val_of AV.bool e93 (by kernel_rfl)) ?_
  refine WL.a (some 12) (.bool t11) h_6 ?_
  exact WL.weaken (Fr.c (Fr.c (Fr.c (Fr.c Fr.n)))) (J16 _ _ z)
 | false =>
  replace z := ifB_f z
  refine WL.o (some 9) ?_
  refine WL.o (some 10) ?_
  refine WL.o (some 11) ?_
  refine WL.a (some 12) (.bool false) h_6 ?_
  exact WL.weaken (Fr.c (Fr.c (Fr.c (Fr.c Fr.n)))) (J16 _ _ z)
noncomputable def pattern_Tree_fn (call : CallF) (n : Nat) : FnT := fun args h => match args with
 | [x0] => obind (avAgg x0) fun t0 => pattern_Tree call n t0 h
 | _ => none
set_option maxRecDepth 100000 in
theorem pattern_Tree_fn_eq (call : CallF) (n : Nat) (t0 : List AV) (h : AHeap) : pattern_Tree_fn call n [.agg t0] h = pattern_Tree call n t0 h :=
 (Eq.trans (obind_eq (fun t0 => pattern_Tree call n t0 h) (avAgg_agg t0)) rfl)
theorem pattern_Tree_holds {call : CallF} (hc : SaysAll Pg call) (n : Nat) : Holds Pg 21 (pattern_Tree_fn call n) := by
 intro args h r h2 e
 unfold pattern_Tree_fn at e
 split at e
 ·replace e := oS e; obtain ⟨t0, c0, e⟩ := e; have c0 := avAgg_some c0; subst c0
  exact pattern_Tree_ok hc e
 ·cases e
noncomputable def pattern_Tree_1 (call : CallF) (_ : Nat) (t0 : AV) (t1 : AV) (t2 : AV) (h : AHeap) : R :=
 obind (ldCell h t0) fun v3 =>
 obind (fldP 0 t1) fun t4 =>
 obind (ldCell h t4) fun v5 =>
 obind (avInt .i64 v5) fun t5 =>
 callK (call 40 [v3, .int .i64 t5] h) fun r6 h_5 =>
 obind (avAgg r6) fun t6 =>
 obind (stRow h_5 6 t6 t2) fun h_8 =>
 some (.ret (.tup []), h_8)
theorem pattern_Tree_1_ok {call : CallF} (hc : SaysAll Pg call) {n : Nat} {t0 : AV} {t1 : AV} {t2 : AV} {h : AHeap} {rR : ARes} {hR : AHeap} (z : pattern_Tree_1 call n t0 t1 t2 h = some (rR, hR)) : Says Pg 39 [t0, t1, t2] h rR hR := by
 unfold pattern_Tree_1 at z
 refine says_of (fn := Try.f39) Try.func39 (c := codeOf Try.f39) (by kernel_rfl) (by kernel_rfl) (fun w0 m0 => ?_)
 refine W.weaken (l' := [(0, t0), (1, t1), (2, t2)]) (Fr.c (Fr.c (Fr.c Fr.n))) ?_
 refine W.r ?_
 replace z := oS z; obtain ⟨v3, e1, z⟩ := z
 refine WL.b (some 3) v3 h (load_cell (P := Pg) (h := h) (t := 68) (by kernel_rfl) e1) ?_
 replace z := oS z; obtain ⟨t4, e2, z⟩ := z
 refine WL.b (some 4) t4 h (field_ptr (P := Pg) (h := h) (s := 35) (f := 0) (by kernel_rfl) e2) ?_
 replace z := oS z; obtain ⟨v5, e3, z⟩ := z
 replace z := oS z; obtain ⟨t5, c4, z⟩ := z
 have c4 := avInt_some c4
 subst c4
 refine WL.b (some 5) (.int .i64 t5) h (load_cell (P := Pg) (h := h) (t := 3) (by kernel_rfl) e3) ?_
 replace z := callK_some z; rcases z with ⟨r6, h_5, e6, z⟩ | ⟨r6, h_5, e6, q10⟩
 ·replace z := oS z; obtain ⟨t6, c7, z⟩ := z
  have c7 := avAgg_some c7
  subst c7
  refine WL.c (hc.ok w0) (some 6) e6 ?_
  replace z := oS z; obtain ⟨h_8, e9, z⟩ := z
  refine WL.e h_8 (store_row (P := Pg) (h := h_5) (t := 41) (v := (.agg t6)) (by kernel_rfl) (by kernel_rfl) e9) ?_
  refine WL.n ?_
  refine Go.weaken (l' := []) Fr.n ?_
  obtain ⟨z, hF2⟩ := ret_inj z; subst z; subst hF2
  exact leaveN_of (rs := []) (vs := []) (by kernel_rfl) res_nil (by kernel_rfl)
 ·obtain ⟨zq, zr⟩ := pan_inj q10; subst zq; subst zr
  exact WL.callPanic (hc.ok w0) (d := (some 6)) (by kernel_rfl) (by kernel_rfl) (by kernel_rfl) e6 Pan.fin
noncomputable def pattern_Tree_1_fn (call : CallF) (n : Nat) : FnT := fun args h => match args with
 | [x0, x1, x2] => pattern_Tree_1 call n x0 x1 x2 h
 | _ => none
set_option maxRecDepth 100000 in
theorem pattern_Tree_1_fn_eq (call : CallF) (n : Nat) (t0 : AV) (t1 : AV) (t2 : AV) (h : AHeap) : pattern_Tree_1_fn call n [t0, t1, t2] h = pattern_Tree_1 call n t0 t1 t2 h :=
 rfl
theorem pattern_Tree_1_holds {call : CallF} (hc : SaysAll Pg call) (n : Nat) : Holds Pg 39 (pattern_Tree_1_fn call n) := by
 intro args h r h2 e
 unfold pattern_Tree_1_fn at e
 split at e
 ·exact pattern_Tree_1_ok hc e
 ·cases e
noncomputable def pattern_reader_tree (call : CallF) (_ : Nat) (t0 : AV) (t1 : Int) (h : AHeap) : R :=
 lett (newH h 41 [.int .i64 0, .int .u64 0, .int .u64 0, .int .u64 0, .int .u64 0, .nsl]) fun h_2 =>
 lett ((t1 : Int) == 2) fun (t8 : Bool) =>
 ifB t8
 (
  callK (call 59 [t0, (AV.fn 60 [t0] [])] h_2) fun r12 h_10 =>
  obind (avAgg r12) fun t12 =>
  obind (stRow h_10 6 t12 (newP h)) fun h_13 =>
  obind (ldRow h_13 6 (newP h)) fun w4 =>
  some (.ret (.agg w4), h_13))
 (
  lett ((t1 : Int) == 3) fun (t14 : Bool) =>
  ifB t14
  (
   callK (call 61 [t0] h_2) fun r16 h_20 =>
   obind (avAgg r16) fun t16 =>
   lett (newH h_20 41 [.int .i64 0, .int .u64 0, .int .u64 0, .int .u64 0, .int .u64 0, .nsl]) fun h_23 =>
   obind (stRow h_23 6 t16 (newP h_20)) fun h_25 =>
   callK (call 62 [t0] h_25) fun _ h_28 =>
   obind (ldRow h_28 6 (newP h_20)) fun t19 =>
   obind (stRow h_28 6 t19 (newP h)) fun h_32 =>
   obind (ldRow h_32 6 (newP h)) fun w4_35 =>
   some (.ret (.agg w4_35), h_32))
  (
   callK (call 59 [t0, (AV.fn 63 [t0] [])] h_2) fun r23 h_39 =>
   obind (avAgg r23) fun t23 =>
   obind (stRow h_39 6 t23 (newP h)) fun h_42 =>
   obind (ldRow h_42 6 (newP h)) fun w4_45 =>
   some (.ret (.agg w4_45), h_42)))
theorem pattern_reader_tree_ok {call : CallF} (hc : SaysAll Pg call) {n : Nat} {t0 : AV} {t1 : Int} {h : AHeap} {rR : ARes} {hR : AHeap} (z : pattern_reader_tree call n t0 t1 h = some (rR, hR)) : Says Pg 40 [t0, .int .i64 t1] h rR hR := by
 unfold pattern_reader_tree at z
 refine says_of (fn := Try.f40) Try.func40 (c := codeOf Try.f40) (by kernel_rfl) (by kernel_rfl) (fun w0 m0 => ?_)
 refine W.weaken (l' := [(0, t0), (1, .int .i64 t1)]) (Fr.c (Fr.c Fr.n)) ?_
 refine W.s (fun _ n1 _ _ _ => ?_)
 refine W.r ?_
 replace z := lS z; obtain ⟨h_2, e3, z⟩ := z
 refine WL.val (d := (some 4)) (v := (newP h)) (h' := h_2) (by kernel_rfl) (by kernel_rfl) (val_ofH e3 (by kernel_rfl)) ?_
 refine WL.n ?_
 refine Go.weaken (l' := [(0, t0), (1, .int .i64 t1), (4, newP h)]) (Fr.c (Fr.c (Fr.c Fr.n))) ?_
 refine n1 ?_
 refine W.s (fun _ n4 _ q4 p4 => ?_)
 refine W.s (fun _ n5 _ _ _ => ?_)
 refine W.r ?_
 refine WL.a (some 6) (.int .i64 t1) h_2 ?_
 refine WL.n ?_
 refine Go.weaken (l' := [(0, t0), (4, newP h), (6, .int .i64 t1)]) (Fr.c (Fr.c (Fr.c Fr.n))) ?_
 refine n5 ?_
 refine W.blockK (by kernel_rfl) (fun K6 n6 s6 o6 q6 p6 => ?_)
 refine W.s (fun _ n7 _ _ _ => ?_)
 refine W.r ?_
 replace z := lS z; obtain ⟨t8, e8, z⟩ := z
 refine WL.val (d := (some 8)) (v := .bool t8) (h' := h_2) (by kernel_rfl) (by kernel_rfl) (val_of AV.bool e8 (by kernel_rfl)) ?_
 refine WL.a (some 7) (.bool t8) h_2 ?_
 refine WL.n ?_
 refine Go.weaken (l' := [(0, t0), (4, newP h), (6, .int .i64 t1), (7, .bool t8)]) (Fr.c (Fr.c (Fr.c (Fr.c Fr.n)))) ?_
 refine n7 ?_
 cases t8 with
 | true =>
  replace z := ifB_t z
  refine W.t ?_
  refine W.s (fun _ n9 _ _ p9 => ?_)
  refine W.r ?_
  refine WL.a (some 9) t0 h_2 ?_
  refine WL.a (some 10) t0 h_2 ?_
  refine WL.a (some 11) (AV.fn 60 [t0] []) h_2 ?_
  replace z := callK_some z; rcases z with ⟨r12, h_10, e11, z⟩ | ⟨r12, h_10, e11, q16⟩
  ·replace z := oS z; obtain ⟨t12, c12, z⟩ := z
   have c12 := avAgg_some c12
   subst c12
   refine WL.c (hc.ok w0) (some 12) e11 ?_
   replace z := oS z; obtain ⟨h_13, e14, z⟩ := z
   refine WL.e h_13 (store_row (P := Pg) (h := h_10) (t := 41) (v := (.agg t12)) (by kernel_rfl) (by kernel_rfl) e14) ?_
   refine WL.n ?_
   refine Go.weaken (l' := [(4, newP h)]) (Fr.c Fr.n) ?_
   refine n9 ?_
   refine W.ret (by kernel_rfl) ?_
   refine q6 ?_
   refine q4 ?_
   replace z := oS z; obtain ⟨w4, e15, z⟩ := z
   obtain ⟨z, hF2⟩ := ret_inj z; subst z; subst hF2
   exact leave_of (rs := [.cell 4 41]) (vs := [.agg w4]) (by kernel_rfl) (res_cell (by kernel_rfl) (load_row (P := Pg) (h := h_13) (t := 41) (by kernel_rfl) (by kernel_rfl) e15) res_nil) (by kernel_rfl)
  ·obtain ⟨zq, zr⟩ := pan_inj q16; subst zq; subst zr
   exact WL.callPanic (hc.ok w0) (d := (some 12)) (by kernel_rfl) (by kernel_rfl) (by kernel_rfl) e11 (p9 (p6 (p4 Pan.fin)))
 | false =>
  replace z := ifB_f z
  refine W.f ?_
  refine W.s (fun _ n17 _ _ _ => ?_)
  refine W.r ?_
  replace z := lS z; obtain ⟨t14, e18, z⟩ := z
  refine WL.val (d := (some 14)) (v := .bool t14) (h' := h_2) (by kernel_rfl) (by kernel_rfl) (val_of AV.bool e18 (by kernel_rfl)) ?_
  refine WL.a (some 13) (.bool t14) h_2 ?_
  refine WL.n ?_
  refine Go.weaken (l' := [(0, t0), (4, newP h), (13, .bool t14)]) (Fr.c (Fr.c (Fr.c Fr.n))) ?_
  refine n17 ?_
  cases t14 with
  | true =>
   replace z := ifB_t z
   refine W.t ?_
   refine W.s (fun _ n19 _ _ p19 => ?_)
   refine W.r ?_
   refine WL.a (some 15) t0 h_2 ?_
   replace z := callK_some z; rcases z with ⟨r16, h_20, e21, z⟩ | ⟨r16, h_20, e21, q37⟩
   ·replace z := oS z; obtain ⟨t16, c22, z⟩ := z
    have c22 := avAgg_some c22
    subst c22
    refine WL.c (hc.ok w0) (some 16) e21 ?_
    replace z := lS z; obtain ⟨h_23, e24, z⟩ := z
    refine WL.val (d := (some 5)) (v := (newP h_20)) (h' := h_23) (by kernel_rfl) (by kernel_rfl) (val_ofH e24 (by kernel_rfl)) ?_
    replace z := oS z; obtain ⟨h_25, e26, z⟩ := z
    refine WL.e h_25 (store_row (P := Pg) (h := h_23) (t := 41) (v := (.agg t16)) (by kernel_rfl) (by kernel_rfl) e26) ?_
    refine WL.n ?_
    refine Go.weaken (l' := [(0, t0), (4, newP h), (5, newP h_20)]) (Fr.c (Fr.c (Fr.c Fr.n))) ?_
    refine n19 ?_
    refine W.s (fun _ n27 _ _ p27 => ?_)
    refine W.r ?_
    refine WL.a (some 17) t0 h_25 ?_
    replace z := callK_some z; rcases z with ⟨r18, h_28, e29, z⟩ | ⟨r18, h_28, e29, q36⟩
    ·refine WL.c (hc.ok w0) (some 18) e29 ?_
     refine WL.n ?_
     refine Go.weaken (l' := [(4, newP h), (5, newP h_20)]) (Fr.c (Fr.c Fr.n)) ?_
     refine n27 ?_
     refine W.s (fun _ n30 _ _ _ => ?_)
     refine W.r ?_
     replace z := oS z; obtain ⟨t19, e31, z⟩ := z
     refine WL.b (some 19) (.agg t19) h_28 (load_row (P := Pg) (h := h_28) (t := 41) (by kernel_rfl) (by kernel_rfl) e31) ?_
     replace z := oS z; obtain ⟨h_32, e33, z⟩ := z
     refine WL.e h_32 (store_row (P := Pg) (h := h_28) (t := 41) (v := (.agg t19)) (by kernel_rfl) (by kernel_rfl) e33) ?_
     refine WL.n ?_
     refine Go.weaken (l' := [(4, newP h)]) (Fr.c Fr.n) ?_
     refine n30 ?_
     refine W.ret (by kernel_rfl) ?_
     refine q6 ?_
     refine q4 ?_
     replace z := oS z; obtain ⟨w4_35, e34, z⟩ := z
     obtain ⟨z, hF2⟩ := ret_inj z; subst z; subst hF2
     exact leave_of (rs := [.cell 4 41]) (vs := [.agg w4_35]) (by kernel_rfl) (res_cell (by kernel_rfl) (load_row (P := Pg) (h := h_32) (t := 41) (by kernel_rfl) (by kernel_rfl) e34) res_nil) (by kernel_rfl)
    ·obtain ⟨zq, zr⟩ := pan_inj q36; subst zq; subst zr
     exact WL.callPanic (hc.ok w0) (d := (some 18)) (by kernel_rfl) (by kernel_rfl) (by kernel_rfl) e29 (p27 (p6 (p4 Pan.fin)))
   ·obtain ⟨zq, zr⟩ := pan_inj q37; subst zq; subst zr
    exact WL.callPanic (hc.ok w0) (d := (some 16)) (by kernel_rfl) (by kernel_rfl) (by kernel_rfl) e21 (p19 (p6 (p4 Pan.fin)))
  | false =>
   replace z := ifB_f z
   refine W.f ?_
   refine W.skip (by kernel_rfl) ?_
   refine n6 ?_
   refine n4 ?_
   refine W.s (fun _ n38 _ _ p38 => ?_)
   refine W.r ?_
   refine WL.a (some 20) t0 h_2 ?_
   refine WL.a (some 21) t0 h_2 ?_
   refine WL.a (some 22) (AV.fn 63 [t0] []) h_2 ?_
   replace z := callK_some z; rcases z with ⟨r23, h_39, e40, z⟩ | ⟨r23, h_39, e40, q46⟩
   ·replace z := oS z; obtain ⟨t23, c41, z⟩ := z
    have c41 := avAgg_some c41
    subst c41
    refine WL.c (hc.ok w0) (some 23) e40 ?_
    replace z := oS z; obtain ⟨h_42, e43, z⟩ := z
    refine WL.e h_42 (store_row (P := Pg) (h := h_39) (t := 41) (v := (.agg t23)) (by kernel_rfl) (by kernel_rfl) e43) ?_
    refine WL.n ?_
    refine Go.weaken (l' := [(4, newP h)]) (Fr.c Fr.n) ?_
    refine n38 ?_
    refine W.ret (by kernel_rfl) ?_
    replace z := oS z; obtain ⟨w4_45, e44, z⟩ := z
    obtain ⟨z, hF2⟩ := ret_inj z; subst z; subst hF2
    exact leave_of (rs := [.cell 4 41]) (vs := [.agg w4_45]) (by kernel_rfl) (res_cell (by kernel_rfl) (load_row (P := Pg) (h := h_42) (t := 41) (by kernel_rfl) (by kernel_rfl) e44) res_nil) (by kernel_rfl)
   ·obtain ⟨zq, zr⟩ := pan_inj q46; subst zq; subst zr
    exact WL.callPanic (hc.ok w0) (d := (some 23)) (by kernel_rfl) (by kernel_rfl) (by kernel_rfl) e40 (p38 Pan.fin)
noncomputable def pattern_reader_tree_fn (call : CallF) (n : Nat) : FnT := fun args h => match args with
 | [x0, x1] => obind (avInt .i64 x1) fun t1 => pattern_reader_tree call n x0 t1 h
 | _ => none
set_option maxRecDepth 100000 in
theorem pattern_reader_tree_fn_eq (call : CallF) (n : Nat) (t0 : AV) (t1 : Int) (h : AHeap) : pattern_reader_tree_fn call n [t0, .int .i64 t1] h = pattern_reader_tree call n t0 t1 h :=
 (Eq.trans (obind_eq (fun t1 => pattern_reader_tree call n t0 t1 h) (avInt_int .i64 t1)) rfl)
theorem pattern_reader_tree_holds {call : CallF} (hc : SaysAll Pg call) (n : Nat) : Holds Pg 40 (pattern_reader_tree_fn call n) := by
 intro args h r h2 e
 unfold pattern_reader_tree_fn at e
 split at e
 ·replace e := oS e; obtain ⟨t1, c1, e⟩ := e; have c1 := avInt_some c1; subst c1
  exact pattern_reader_tree_ok hc e
 ·cases e
noncomputable def pattern_reader_row_L0b (call : CallF) (t0 : AV) (t1 : AV) (k7 : AV → AHeap → R) (self : AV → AHeap → R) (t5_17 : AV) (h_18 : AHeap) : R :=
 callN (call 74 [t0] h_18) fun r7 h_21 =>
 obind (avBool r7) fun t7 =>
 lett (!t7) fun (t8 : Bool) =>
 ifB t8
 (
  callK (dynC Pg call t1 [] h_21) fun r11 h_26 =>
  obind (avAgg r11) fun t11 =>
  outK (bldSl Pg h_26 39 1 [(0, .agg t11)]) fun v12 h_29 =>
  outK (opAppend Pg h_29 39 39 t5_17 v12) fun v13 h_31 =>
  self v13 h_31)
 (
  k7 t5_17 h_21)
noncomputable def pattern_reader_row_L0 (call : CallF) (t0 : AV) (t1 : AV) (k7 : AV → AHeap → R) : Nat → AV → AHeap → R := iterR (fun _ _ => none) (pattern_reader_row_L0b call t0 t1 k7)
theorem pattern_reader_row_L0_s (call : CallF) (t0 : AV) (t1 : AV) (k7 : AV → AHeap → R) (m : Nat) : pattern_reader_row_L0 call t0 t1 k7 (m + 1) = pattern_reader_row_L0b call t0 t1 k7 (pattern_reader_row_L0 call t0 t1 k7 m) := rfl
noncomputable def pattern_reader_row (call : CallF) (n : Nat) (t0 : AV) (t1 : AV) (h : AHeap) : R :=
 lett (newH h 41 [.int .i64 0, .int .u64 0, .int .u64 0, .int .u64 0, .int .u64 0, .nsl]) fun h_2 =>
 lett (fun (t5 : AV) (h_8 : AHeap) =>
  callN (call 75 [t5] h_8) fun r15 h_10 =>
  obind (avAgg r15) fun t15 =>
  obind (stRow h_10 6 t15 (newP h)) fun h_13 =>
  obind (ldRow h_13 6 (newP h)) fun w4 =>
  some (.ret (.agg w4), h_13)) fun k7 =>
 pattern_reader_row_L0 call t0 t1 k7 n AV.nsl h_2
theorem pattern_reader_row_ok {call : CallF} (hc : SaysAll Pg call) {n : Nat} {t0 : AV} {t1 : AV} {h : AHeap} {rR : ARes} {hR : AHeap} (z : pattern_reader_row call n t0 t1 h = some (rR, hR)) : Says Pg 59 [t0, t1] h rR hR := by
 unfold pattern_reader_row at z
 refine says_of (fn := Try.f59) Try.func59 (c := codeOf Try.f59) (by kernel_rfl) (by kernel_rfl) (fun w0 m0 => ?_)
 refine W.weaken (l' := [(0, t0), (1, t1)]) (Fr.c (Fr.c Fr.n)) ?_
 refine W.s (fun _ n1 _ _ _ => ?_)
 refine W.r ?_
 replace z := lS z; obtain ⟨h_2, e3, z⟩ := z
 refine WL.val (d := (some 4)) (v := (newP h)) (h' := h_2) (by kernel_rfl) (by kernel_rfl) (val_ofH e3 (by kernel_rfl)) ?_
 refine WL.n ?_
 refine Go.weaken (l' := [(0, t0), (1, t1), (4, newP h)]) (Fr.c (Fr.c (Fr.c Fr.n))) ?_
 refine n1 ?_
 refine W.s (fun _ n4 _ _ _ => ?_)
 refine W.r ?_
 refine WL.a (some 5) AV.nsl h_2 ?_
 refine WL.n ?_
 refine Go.weaken (l' := [(0, t0), (1, t1), (4, newP h), (5, AV.nsl)]) (Fr.c (Fr.c (Fr.c (Fr.c Fr.n)))) ?_
 refine n4 ?_
 refine W.s (fun K5 n5 _ _ p5 => ?_)
 replace z := lS z; obtain ⟨k7, e7, z⟩ := z
 have J7 : ∀ (t5 : AV) (h_8 : AHeap), k7 t5 h_8 = some (rR, hR) → Go w0 m0 (Func.ntmps Try.f59) (K5 .normal) [(4, newP h), (5, t5)] [] h_8 := by
  intro t5 h_8 z
  rw [e7] at z
  refine n5 ?_
  refine W.s (fun _ n9 _ _ _ => ?_)
  refine W.r ?_
  refine WL.a (some 14) t5 h_8 ?_
  replace z := callN_some z; obtain ⟨r15, h_10, e11, z⟩ := z
  replace z := oS z; obtain ⟨t15, c12, z⟩ := z
  have c12 := avAgg_some c12
  subst c12
  refine WL.c (hc.ok w0) (some 15) e11 ?_
  replace z := oS z; obtain ⟨h_13, e14, z⟩ := z
  refine WL.e h_13 (store_row (P := Pg) (h := h_10) (t := 41) (v := (.agg t15)) (by kernel_rfl) (by kernel_rfl) e14) ?_
  refine WL.n ?_
  refine Go.weaken (l' := [(4, newP h)]) (Fr.c Fr.n) ?_
  refine n9 ?_
  refine W.ret (by kernel_rfl) ?_
  replace z := oS z; obtain ⟨w4, e15, z⟩ := z
  obtain ⟨z, hF2⟩ := ret_inj z; subst z; subst hF2
  exact leave_of (rs := [.cell 4 41]) (vs := [.agg w4]) (by kernel_rfl) (res_cell (by kernel_rfl) (load_row (P := Pg) (h := h_13) (t := 41) (by kernel_rfl) (by kernel_rfl) e15) res_nil) (by kernel_rfl)
 refine W.blockK (by kernel_rfl) (fun K6 n6 s6 o6 q6 p6 => ?_)
 refine W.loopK (by kernel_rfl) (fun I16 K16 b16 n16 e16 q16 p16 => ?_)
 have L16 : ∀ (m : Nat) (t5_17 : AV) (h_18 : AHeap), pattern_reader_row_L0 call t0 t1 k7 m t5_17 h_18 = some (rR, hR) → Go w0 m0 (Func.ntmps Try.f59) I16 [(0, t0), (1, t1), (4, newP h), (5, t5_17)] [] h_18 := by
  intro m
  induction m with
  | zero => intro t5_17 h_18 z; cases z
  | succ m ih16 =>
   intro t5_17 h_18 z
   rw [pattern_reader_row_L0_s] at z; unfold pattern_reader_row_L0b at z
   refine b16 ?_
   refine W.s (fun _ n19 e19 _ _ => ?_)
   refine W.s (fun _ n20 _ _ _ => ?_)
   refine W.r ?_
   refine WL.a (some 6) t0 h_18 ?_
   replace z := callN_some z; obtain ⟨r7, h_21, e22, z⟩ := z
   replace z := oS z; obtain ⟨t7, c23, z⟩ := z
   have c23 := avBool_some c23
   subst c23
   refine WL.c (hc.ok w0) (some 7) e22 ?_
   replace z := lS z; obtain ⟨t8, e24, z⟩ := z
   refine WL.val (d := (some 8)) (v := .bool t8) (h' := h_21) (by kernel_rfl) (by kernel_rfl) (val_of AV.bool e24 (by kernel_rfl)) ?_
   refine WL.n ?_
   refine Go.weaken (l' := [(0, t0), (1, t1), (4, newP h), (5, t5_17), (8, .bool t8)]) (Fr.c (Fr.c (Fr.c (Fr.c (Fr.c Fr.n))))) ?_
   refine n20 ?_
   cases t8 with
   | true =>
    replace z := ifB_t z
    refine W.t ?_
    refine W.skip (by kernel_rfl) ?_
    refine n19 ?_
    refine W.blockK (by kernel_rfl) (fun K25 n25 s25 o25 q25 p25 => ?_)
    refine W.r ?_
    refine WL.a (some 9) t5_17 h_21 ?_
    refine WL.a (some 10) t1 h_21 ?_
    replace z := callK_some z; rcases z with ⟨r11, h_26, e27, z⟩ | ⟨r11, h_26, e27, q34⟩
    ·replace z := oS z; obtain ⟨t11, c28, z⟩ := z
     have c28 := avAgg_some c28
     subst c28
     rcases dynC_some e27 with ⟨d33g, d33as, d33h, d331, d332⟩ | ⟨d33v, d33h, d331, d332⟩
     rotate_left
     ·cases d332
      refine WL.val (d := (some 11)) (by kernel_rfl) (by kernel_rfl) (Eq.trans (by kernel_rfl) d331) ?_
      replace z := outK_some z; obtain ⟨v12, h_29, e30, z⟩ := z
      refine WL.b (some 12) v12 h_29 e30 ?_
      replace z := outK_some z; obtain ⟨v13, h_31, e32, z⟩ := z
      refine WL.b (some 13) v13 h_31 e32 ?_
      refine WL.a (some 5) v13 h_31 ?_
      refine WL.n ?_
      refine Go.weaken (l' := [(0, t0), (1, t1), (4, newP h), (5, v13)]) (Fr.c (Fr.c (Fr.c (Fr.c Fr.n)))) ?_
      refine n25 ?_
      refine n16 ?_
      exact Go.weaken (Fr.c (Fr.c (Fr.c (Fr.c Fr.n)))) (ih16 _ _ z)
     ·refine WL.call (hc.ok w0) (d := (some 11)) (by kernel_rfl) (by kernel_rfl) (Eq.trans (by kernel_rfl) d331) d332 ?_
      replace z := outK_some z; obtain ⟨v12, h_29, e30, z⟩ := z
      refine WL.b (some 12) v12 h_29 e30 ?_
      replace z := outK_some z; obtain ⟨v13, h_31, e32, z⟩ := z
      refine WL.b (some 13) v13 h_31 e32 ?_
      refine WL.a (some 5) v13 h_31 ?_
      refine WL.n ?_
      refine Go.weaken (l' := [(0, t0), (1, t1), (4, newP h), (5, v13)]) (Fr.c (Fr.c (Fr.c (Fr.c Fr.n)))) ?_
      refine n25 ?_
      refine n16 ?_
      exact Go.weaken (Fr.c (Fr.c (Fr.c (Fr.c Fr.n)))) (ih16 _ _ z)
    ·obtain ⟨zq, zr⟩ := pan_inj q34; subst zq; subst zr
     rcases dynC_some e27 with ⟨d33g, d33as, d33h, d331, d332⟩ | ⟨d33v, d33h, d331, d332⟩
     ·exact WL.callPanic (hc.ok w0) (d := (some 11)) (by kernel_rfl) (by kernel_rfl) (Eq.trans (by kernel_rfl) d331) d332 (p25 (p16 (p6 (p5 Pan.fin))))
     ·cases d332
   | false =>
    replace z := ifB_f z
    refine W.f ?_
    refine W.exit (by kernel_rfl) ?_
    refine e19 ?_
    refine e16 ?_
    refine s6 (by kernel_rfl) ?_
    exact Go.weaken (Fr.c (Fr.c Fr.n)) (J7 _ _ z)
 exact Go.weaken (Fr.c (Fr.c (Fr.c (Fr.c Fr.n)))) (L16 _ _ _ z)
noncomputable def pattern_reader_row_fn (call : CallF) (n : Nat) : FnT := fun args h => match args with
 | [x0, x1] => pattern_reader_row call n x0 x1 h
 | _ => none
set_option maxRecDepth 100000 in
theorem pattern_reader_row_fn_eq (call : CallF) (n : Nat) (t0 : AV) (t1 : AV) (h : AHeap) : pattern_reader_row_fn call n [t0, t1] h = pattern_reader_row call n t0 t1 h :=
 rfl
theorem pattern_reader_row_holds {call : CallF} (hc : SaysAll Pg call) (n : Nat) : Holds Pg 59 (pattern_reader_row_fn call n) := by
 intro args h r h2 e
 unfold pattern_reader_row_fn at e
 split at e
 ·exact pattern_reader_row_ok hc e
 ·cases e
noncomputable def pattern_reader_literalPart (call : CallF) (_ : Nat) (t0 : AV) (h : AHeap) : R :=
 lett (newH h 41 [.int .i64 0, .int .u64 0, .int .u64 0, .int .u64 0, .int .u64 0, .nsl]) fun h_2 =>
 callK (call 71 [t0] h_2) fun r4 h_5 =>
 obind (avInt .u8 r4) fun t4 =>
 callN (call 78 [.int .u8 t4] h_5) fun r5 h_8 =>
 obind (avAgg r5) fun t5 =>
 obind (stRow h_8 6 t5 (newP h)) fun h_11 =>
 obind (ldRow h_11 6 (newP h)) fun w2 =>
 some (.ret (.agg w2), h_11)
theorem pattern_reader_literalPart_ok {call : CallF} (hc : SaysAll Pg call) {n : Nat} {t0 : AV} {h : AHeap} {rR : ARes} {hR : AHeap} (z : pattern_reader_literalPart call n t0 h = some (rR, hR)) : Says Pg 63 [t0] h rR hR := by
 unfold pattern_reader_literalPart at z
 refine says_of (fn := Try.f63) Try.func63 (c := codeOf Try.f63) (by kernel_rfl) (by kernel_rfl) (fun w0 m0 => ?_)
 refine W.weaken (l' := [(0, t0)]) (Fr.c Fr.n) ?_
 refine W.s (fun _ n1 _ _ _ => ?_)
 refine W.r ?_
 replace z := lS z; obtain ⟨h_2, e3, z⟩ := z
 refine WL.val (d := (some 2)) (v := (newP h)) (h' := h_2) (by kernel_rfl) (by kernel_rfl) (val_ofH e3 (by kernel_rfl)) ?_
 refine WL.n ?_
 refine Go.weaken (l' := [(0, t0), (2, newP h)]) (Fr.c (Fr.c Fr.n)) ?_
 refine n1 ?_
 refine W.s (fun _ n4 _ _ p4 => ?_)
 refine W.r ?_
 refine WL.a (some 3) t0 h_2 ?_
 replace z := callK_some z; rcases z with ⟨r4, h_5, e6, z⟩ | ⟨r4, h_5, e6, q14⟩
 ·replace z := oS z; obtain ⟨t4, c7, z⟩ := z
  have c7 := avInt_some c7
  subst c7
  refine WL.c (hc.ok w0) (some 4) e6 ?_
  replace z := callN_some z; obtain ⟨r5, h_8, e9, z⟩ := z
  replace z := oS z; obtain ⟨t5, c10, z⟩ := z
  have c10 := avAgg_some c10
  subst c10
  refine WL.c (hc.ok w0) (some 5) e9 ?_
  replace z := oS z; obtain ⟨h_11, e12, z⟩ := z
  refine WL.e h_11 (store_row (P := Pg) (h := h_8) (t := 41) (v := (.agg t5)) (by kernel_rfl) (by kernel_rfl) e12) ?_
  refine WL.n ?_
  refine Go.weaken (l' := [(2, newP h)]) (Fr.c Fr.n) ?_
  refine n4 ?_
  refine W.ret (by kernel_rfl) ?_
  replace z := oS z; obtain ⟨w2, e13, z⟩ := z
  obtain ⟨z, hF2⟩ := ret_inj z; subst z; subst hF2
  exact leave_of (rs := [.cell 2 41]) (vs := [.agg w2]) (by kernel_rfl) (res_cell (by kernel_rfl) (load_row (P := Pg) (h := h_11) (t := 41) (by kernel_rfl) (by kernel_rfl) e13) res_nil) (by kernel_rfl)
 ·obtain ⟨zq, zr⟩ := pan_inj q14; subst zq; subst zr
  exact WL.callPanic (hc.ok w0) (d := (some 4)) (by kernel_rfl) (by kernel_rfl) (by kernel_rfl) e6 (p4 Pan.fin)
noncomputable def pattern_reader_literalPart_fn (call : CallF) (n : Nat) : FnT := fun args h => match args with
 | [x0] => pattern_reader_literalPart call n x0 h
 | _ => none
set_option maxRecDepth 100000 in
theorem pattern_reader_literalPart_fn_eq (call : CallF) (n : Nat) (t0 : AV) (h : AHeap) : pattern_reader_literalPart_fn call n [t0] h = pattern_reader_literalPart call n t0 h :=
 rfl
theorem pattern_reader_literalPart_holds {call : CallF} (hc : SaysAll Pg call) (n : Nat) : Holds Pg 63 (pattern_reader_literalPart_fn call n) := by
 intro args h r h2 e
 unfold pattern_reader_literalPart_fn at e
 split at e
 ·exact pattern_reader_literalPart_ok hc e
 ·cases e
noncomputable def pattern_reader_globPart (call : CallF) (_ : Nat) (t0 : AV) (h : AHeap) : R :=
 lett (newH h 41 [.int .i64 0, .int .u64 0, .int .u64 0, .int .u64 0, .int .u64 0, .nsl]) fun h_2 =>
 callK (call 71 [t0] h_2) fun r5 h_5 =>
 obind (avInt .u8 r5) fun t5 =>
 lett ((t5 : Int) == 42) fun (t10 : Bool) =>
 ifB t10
 (
  callN (call 77 [] h_5) fun r11 h_13 =>
  obind (avAgg r11) fun t11 =>
  outK (bldSl Pg h_13 39 1 [(0, .agg t11)]) fun v12 h_16 =>
  callN (call 76 [.int .i64 5, v12] h_16) fun r13 h_18 =>
  obind (avAgg r13) fun t13 =>
  obind (stRow h_18 6 t13 (newP h)) fun h_21 =>
  obind (ldRow h_21 6 (newP h)) fun w2 =>
  some (.ret (.agg w2), h_21))
 (
  lett ((t5 : Int) == 63) fun (t15 : Bool) =>
  ifB t15
  (
   callN (call 77 [] h_5) fun r16 h_27 =>
   obind (avAgg r16) fun t16 =>
   obind (stRow h_27 6 t16 (newP h)) fun h_30 =>
   obind (ldRow h_30 6 (newP h)) fun w2_33 =>
   some (.ret (.agg w2_33), h_30))
  (
   lett ((t5 : Int) == 92) fun (t18 : Bool) =>
   ifB t18
   (
    callK (call 71 [t0] h_5) fun r20 h_37 =>
    obind (avInt .u8 r20) fun t20 =>
    callN (call 78 [.int .u8 t20] h_37) fun r21 h_40 =>
    obind (avAgg r21) fun t21 =>
    obind (stRow h_40 6 t21 (newP h)) fun h_43 =>
    obind (ldRow h_43 6 (newP h)) fun w2_46 =>
    some (.ret (.agg w2_46), h_43))
   (
    callN (call 78 [.int .u8 t5] h_5) fun r8 h_49 =>
    obind (avAgg r8) fun t8 =>
    obind (stRow h_49 6 t8 (newP h)) fun h_52 =>
    obind (ldRow h_52 6 (newP h)) fun w2_55 =>
    some (.ret (.agg w2_55), h_52))))
theorem pattern_reader_globPart_ok {call : CallF} (hc : SaysAll Pg call) {n : Nat} {t0 : AV} {h : AHeap} {rR : ARes} {hR : AHeap} (z : pattern_reader_globPart call n t0 h = some (rR, hR)) : Says Pg 60 [t0] h rR hR := by
 unfold pattern_reader_globPart at z
 refine says_of (fn := Try.f60) Try.func60 (c := codeOf Try.f60) (by kernel_rfl) (by kernel_rfl) (fun w0 m0 => ?_)
 refine W.weaken (l' := [(0, t0)]) (Fr.c Fr.n) ?_
 refine W.s (fun _ n1 _ _ _ => ?_)
 refine W.r ?_
 replace z := lS z; obtain ⟨h_2, e3, z⟩ := z
 refine WL.val (d := (some 2)) (v := (newP h)) (h' := h_2) (by kernel_rfl) (by kernel_rfl) (val_ofH e3 (by kernel_rfl)) ?_
 refine WL.n ?_
 refine Go.weaken (l' := [(0, t0), (2, newP h)]) (Fr.c (Fr.c Fr.n)) ?_
 refine n1 ?_
 refine W.s (fun _ n4 _ _ p4 => ?_)
 refine W.r ?_
 refine WL.a (some 4) t0 h_2 ?_
 replace z := callK_some z; rcases z with ⟨r5, h_5, e6, z⟩ | ⟨r5, h_5, e6, q56⟩
 ·replace z := oS z; obtain ⟨t5, c7, z⟩ := z
  have c7 := avInt_some c7
  subst c7
  refine WL.c (hc.ok w0) (some 5) e6 ?_
  refine WL.a (some 3) (.int .u8 t5) h_5 ?_
  refine WL.n ?_
  refine Go.weaken (l' := [(0, t0), (2, newP h), (3, .int .u8 t5)]) (Fr.c (Fr.c (Fr.c Fr.n))) ?_
  refine n4 ?_
  refine W.s (fun _ n8 _ _ _ => ?_)
  refine W.r ?_
  refine WL.a (some 6) (.int .u8 t5) h_5 ?_
  refine WL.n ?_
  refine Go.weaken (l' := [(0, t0), (2, newP h), (3, .int .u8 t5), (6, .int .u8 t5)]) (Fr.c (Fr.c (Fr.c (Fr.c Fr.n)))) ?_
  refine n8 ?_
  refine W.blockK (by kernel_rfl) (fun K9 n9 s9 o9 q9 p9 => ?_)
  refine W.s (fun _ n10 _ _ _ => ?_)
  refine W.r ?_
  replace z := lS z; obtain ⟨t10, e11, z⟩ := z
  refine WL.val (d := (some 10)) (v := .bool t10) (h' := h_5) (by kernel_rfl) (by kernel_rfl) (val_of AV.bool e11 (by kernel_rfl)) ?_
  refine WL.a (some 9) (.bool t10) h_5 ?_
  refine WL.n ?_
  refine Go.weaken (l' := [(0, t0), (2, newP h), (3, .int .u8 t5), (6, .int .u8 t5), (9, .bool t10)]) (Fr.c (Fr.c (Fr.c (Fr.c (Fr.c Fr.n))))) ?_
  refine n10 ?_
  cases t10 with
  | true =>
   replace z := ifB_t z
   refine W.t ?_
   refine W.s (fun _ n12 _ _ _ => ?_)
   refine W.r ?_
   replace z := callN_some z; obtain ⟨r11, h_13, e14, z⟩ := z
   replace z := oS z; obtain ⟨t11, c15, z⟩ := z
   have c15 := avAgg_some c15
   subst c15
   refine WL.c (hc.ok w0) (some 11) e14 ?_
   replace z := outK_some z; obtain ⟨v12, h_16, e17, z⟩ := z
   refine WL.b (some 12) v12 h_16 e17 ?_
   replace z := callN_some z; obtain ⟨r13, h_18, e19, z⟩ := z
   replace z := oS z; obtain ⟨t13, c20, z⟩ := z
   have c20 := avAgg_some c20
   subst c20
   refine WL.c (hc.ok w0) (some 13) e19 ?_
   replace z := oS z; obtain ⟨h_21, e22, z⟩ := z
   refine WL.e h_21 (store_row (P := Pg) (h := h_18) (t := 41) (v := (.agg t13)) (by kernel_rfl) (by kernel_rfl) e22) ?_
   refine WL.n ?_
   refine Go.weaken (l' := [(2, newP h)]) (Fr.c Fr.n) ?_
   refine n12 ?_
   refine W.ret (by kernel_rfl) ?_
   refine q9 ?_
   replace z := oS z; obtain ⟨w2, e23, z⟩ := z
   obtain ⟨z, hF2⟩ := ret_inj z; subst z; subst hF2
   exact leave_of (rs := [.cell 2 41]) (vs := [.agg w2]) (by kernel_rfl) (res_cell (by kernel_rfl) (load_row (P := Pg) (h := h_21) (t := 41) (by kernel_rfl) (by kernel_rfl) e23) res_nil) (by kernel_rfl)
  | false =>
   replace z := ifB_f z
   refine W.f ?_
   refine W.s (fun _ n24 _ _ _ => ?_)
   refine W.r ?_
   replace z := lS z; obtain ⟨t15, e25, z⟩ := z
   refine WL.val (d := (some 15)) (v := .bool t15) (h' := h_5) (by kernel_rfl) (by kernel_rfl) (val_of AV.bool e25 (by kernel_rfl)) ?_
   refine WL.a (some 14) (.bool t15) h_5 ?_
   refine WL.n ?_
   refine Go.weaken (l' := [(0, t0), (2, newP h), (3, .int .u8 t5), (6, .int .u8 t5), (14, .bool t15)]) (Fr.c (Fr.c (Fr.c (Fr.c (Fr.c Fr.n))))) ?_
   refine n24 ?_
   cases t15 with
   | true =>
    replace z := ifB_t z
    refine W.t ?_
    refine W.s (fun _ n26 _ _ _ => ?_)
    refine W.r ?_
    replace z := callN_some z; obtain ⟨r16, h_27, e28, z⟩ := z
    replace z := oS z; obtain ⟨t16, c29, z⟩ := z
    have c29 := avAgg_some c29
    subst c29
    refine WL.c (hc.ok w0) (some 16) e28 ?_
    replace z := oS z; obtain ⟨h_30, e31, z⟩ := z
    refine WL.e h_30 (store_row (P := Pg) (h := h_27) (t := 41) (v := (.agg t16)) (by kernel_rfl) (by kernel_rfl) e31) ?_
    refine WL.n ?_
    refine Go.weaken (l' := [(2, newP h)]) (Fr.c Fr.n) ?_
    refine n26 ?_
    refine W.ret (by kernel_rfl) ?_
    refine q9 ?_
    replace z := oS z; obtain ⟨w2_33, e32, z⟩ := z
    obtain ⟨z, hF2⟩ := ret_inj z; subst z; subst hF2
    exact leave_of (rs := [.cell 2 41]) (vs := [.agg w2_33]) (by kernel_rfl) (res_cell (by kernel_rfl) (load_row (P := Pg) (h := h_30) (t := 41) (by kernel_rfl) (by kernel_rfl) e32) res_nil) (by kernel_rfl)
   | false =>
    replace z := ifB_f z
    refine W.f ?_
    refine W.s (fun _ n34 _ _ _ => ?_)
    refine W.r ?_
    replace z := lS z; obtain ⟨t18, e35, z⟩ := z
    refine WL.val (d := (some 18)) (v := .bool t18) (h' := h_5) (by kernel_rfl) (by kernel_rfl) (val_of AV.bool e35 (by kernel_rfl)) ?_
    refine WL.a (some 17) (.bool t18) h_5 ?_
    refine WL.n ?_
    refine Go.weaken (l' := [(0, t0), (2, newP h), (3, .int .u8 t5), (17, .bool t18)]) (Fr.c (Fr.c (Fr.c (Fr.c Fr.n)))) ?_
    refine n34 ?_
    cases t18 with
    | true =>
     replace z := ifB_t z
     refine W.t ?_
     refine W.s (fun _ n36 _ _ p36 => ?_)
     refine W.r ?_
     refine WL.a (some 19) t0 h_5 ?_
     replace z := callK_some z; rcases z with ⟨r20, h_37, e38, z⟩ | ⟨r20, h_37, e38, q47⟩
     ·replace z := oS z; obtain ⟨t20, c39, z⟩ := z
      have c39 := avInt_some c39
      subst c39
      refine WL.c (hc.ok w0) (some 20) e38 ?_
      replace z := callN_some z; obtain ⟨r21, h_40, e41, z⟩ := z
      replace z := oS z; obtain ⟨t21, c42, z⟩ := z
      have c42 := avAgg_some c42
      subst c42
      refine WL.c (hc.ok w0) (some 21) e41 ?_
      replace z := oS z; obtain ⟨h_43, e44, z⟩ := z
      refine WL.e h_43 (store_row (P := Pg) (h := h_40) (t := 41) (v := (.agg t21)) (by kernel_rfl) (by kernel_rfl) e44) ?_
      refine WL.n ?_
      refine Go.weaken (l' := [(2, newP h)]) (Fr.c Fr.n) ?_
      refine n36 ?_
      refine W.ret (by kernel_rfl) ?_
      refine q9 ?_
      replace z := oS z; obtain ⟨w2_46, e45, z⟩ := z
      obtain ⟨z, hF2⟩ := ret_inj z; subst z; subst hF2
      exact leave_of (rs := [.cell 2 41]) (vs := [.agg w2_46]) (by kernel_rfl) (res_cell (by kernel_rfl) (load_row (P := Pg) (h := h_43) (t := 41) (by kernel_rfl) (by kernel_rfl) e45) res_nil) (by kernel_rfl)
     ·obtain ⟨zq, zr⟩ := pan_inj q47; subst zq; subst zr
      exact WL.callPanic (hc.ok w0) (d := (some 20)) (by kernel_rfl) (by kernel_rfl) (by kernel_rfl) e38 (p36 (p9 Pan.fin))
    | false =>
     replace z := ifB_f z
     refine W.f ?_
     refine W.s (fun _ n48 _ _ _ => ?_)
     refine W.r ?_
     refine WL.a (some 7) (.int .u8 t5) h_5 ?_
     replace z := callN_some z; obtain ⟨r8, h_49, e50, z⟩ := z
     replace z := oS z; obtain ⟨t8, c51, z⟩ := z
     have c51 := avAgg_some c51
     subst c51
     refine WL.c (hc.ok w0) (some 8) e50 ?_
     replace z := oS z; obtain ⟨h_52, e53, z⟩ := z
     refine WL.e h_52 (store_row (P := Pg) (h := h_49) (t := 41) (v := (.agg t8)) (by kernel_rfl) (by kernel_rfl) e53) ?_
     refine WL.n ?_
     refine Go.weaken (l' := [(2, newP h)]) (Fr.c Fr.n) ?_
     refine n48 ?_
     refine W.ret (by kernel_rfl) ?_
     refine q9 ?_
     replace z := oS z; obtain ⟨w2_55, e54, z⟩ := z
     obtain ⟨z, hF2⟩ := ret_inj z; subst z; subst hF2
     exact leave_of (rs := [.cell 2 41]) (vs := [.agg w2_55]) (by kernel_rfl) (res_cell (by kernel_rfl) (load_row (P := Pg) (h := h_52) (t := 41) (by kernel_rfl) (by kernel_rfl) e54) res_nil) (by kernel_rfl)
 ·obtain ⟨zq, zr⟩ := pan_inj q56; subst zq; subst zr
  exact WL.callPanic (hc.ok w0) (d := (some 5)) (by kernel_rfl) (by kernel_rfl) (by kernel_rfl) e6 (p4 Pan.fin)
noncomputable def pattern_reader_globPart_fn (call : CallF) (n : Nat) : FnT := fun args h => match args with
 | [x0] => pattern_reader_globPart call n x0 h
 | _ => none
set_option maxRecDepth 100000 in
theorem pattern_reader_globPart_fn_eq (call : CallF) (n : Nat) (t0 : AV) (h : AHeap) : pattern_reader_globPart_fn call n [t0] h = pattern_reader_globPart call n t0 h :=
 rfl
theorem pattern_reader_globPart_holds {call : CallF} (hc : SaysAll Pg call) (n : Nat) : Holds Pg 60 (pattern_reader_globPart_fn call n) := by
 intro args h r h2 e
 unfold pattern_reader_globPart_fn at e
 split at e
 ·exact pattern_reader_globPart_ok hc e
 ·cases e
noncomputable def pattern_reader_alternatives_L0b (call : CallF) (t0 : AV) (k12 : AV → AHeap → R) (self : AV → AHeap → R) (t3_33 : AV) (h_34 : AHeap) : R :=
 callN (call 55 [t0, .int .u8 124] h_34) fun r8 h_37 =>
 obind (avBool r8) fun t8 =>
 ifB t8
 (
  callK (call 79 [t0] h_37) fun r11 h_41 =>
  obind (avAgg r11) fun t11 =>
  outK (bldSl Pg h_41 39 1 [(0, .agg t11)]) fun v12 h_44 =>
  outK (opAppend Pg h_44 39 39 t3_33 v12) fun v13 h_46 =>
  self v13 h_46)
 (
  k12 t3_33 h_37)
noncomputable def pattern_reader_alternatives_L0 (call : CallF) (t0 : AV) (k12 : AV → AHeap → R) : Nat → AV → AHeap → R := iterR (fun _ _ => none) (pattern_reader_alternatives_L0b call t0 k12)
theorem pattern_reader_alternatives_L0_s (call : CallF) (t0 : AV) (k12 : AV → AHeap → R) (m : Nat) : pattern_reader_alternatives_L0 call t0 k12 (m + 1) = pattern_reader_alternatives_L0b call t0 k12 (pattern_reader_alternatives_L0 call t0 k12 m) := rfl
noncomputable def pattern_reader_alternatives (call : CallF) (n : Nat) (t0 : AV) (h : AHeap) : R :=
 lett (newH h 41 [.int .i64 0, .int .u64 0, .int .u64 0, .int .u64 0, .int .u64 0, .nsl]) fun h_2 =>
 callK (call 79 [t0] h_2) fun r5 h_5 =>
 obind (avAgg r5) fun t5 =>
 outK (bldSl Pg h_5 39 1 [(0, .agg t5)]) fun v6 h_8 =>
 lett (fun (t3 : AV) (h_13 : AHeap) =>
  obind (lenL t3) fun t15 =>
  lett ((t15 : Int) == 1) fun (t16 : Bool) =>
  ifB t16
  (
   obind (idxP 6 t3 0) fun t18 =>
   obind (ldRow h_13 6 t18) fun t19 =>
   obind (stRow h_13 6 t19 (newP h)) fun h_21 =>
   obind (ldRow h_21 6 (newP h)) fun w2 =>
   some (.ret (.agg w2), h_21))
  (
   callN (call 76 [.int .i64 4, t3] h_13) fun r21 h_25 =>
   obind (avAgg r21) fun t21 =>
   obind (stRow h_25 6 t21 (newP h)) fun h_28 =>
   obind (ldRow h_28 6 (newP h)) fun w2_31 =>
   some (.ret (.agg w2_31), h_28))) fun k12 =>
 pattern_reader_alternatives_L0 call t0 k12 n v6 h_8
theorem pattern_reader_alternatives_ok {call : CallF} (hc : SaysAll Pg call) {n : Nat} {t0 : AV} {h : AHeap} {rR : ARes} {hR : AHeap} (z : pattern_reader_alternatives call n t0 h = some (rR, hR)) : Says Pg 61 [t0] h rR hR := by
 unfold pattern_reader_alternatives at z
 refine says_of (fn := Try.f61) Try.func61 (c := codeOf Try.f61) (by kernel_rfl) (by kernel_rfl) (fun w0 m0 => ?_)
 refine W.weaken (l' := [(0, t0)]) (Fr.c Fr.n) ?_
 refine W.s (fun _ n1 _ _ _ => ?_)
 refine W.r ?_
 replace z := lS z; obtain ⟨h_2, e3, z⟩ := z
 refine WL.val (d := (some 2)) (v := (newP h)) (h' := h_2) (by kernel_rfl) (by kernel_rfl) (val_ofH e3 (by kernel_rfl)) ?_
 refine WL.n ?_
 refine Go.weaken (l' := [(0, t0), (2, newP h)]) (Fr.c (Fr.c Fr.n)) ?_
 refine n1 ?_
 refine W.s (fun _ n4 _ _ p4 => ?_)
 refine W.r ?_
 refine WL.a (some 4) t0 h_2 ?_
 replace z := callK_some z; rcases z with ⟨r5, h_5, e6, z⟩ | ⟨r5, h_5, e6, q49⟩
 ·replace z := oS z; obtain ⟨t5, c7, z⟩ := z
  have c7 := avAgg_some c7
  subst c7
  refine WL.c (hc.ok w0) (some 5) e6 ?_
  replace z := outK_some z; obtain ⟨v6, h_8, e9, z⟩ := z
  refine WL.b (some 6) v6 h_8 e9 ?_
  refine WL.a (some 3) v6 h_8 ?_
  refine WL.n ?_
  refine Go.weaken (l' := [(0, t0), (2, newP h), (3, v6)]) (Fr.c (Fr.c (Fr.c Fr.n))) ?_
  refine n4 ?_
  refine W.s (fun K10 n10 _ _ p10 => ?_)
  replace z := lS z; obtain ⟨k12, e12, z⟩ := z
  have J12 : ∀ (t3 : AV) (h_13 : AHeap), k12 t3 h_13 = some (rR, hR) → Go w0 m0 (Func.ntmps Try.f61) (K10 .normal) [(2, newP h), (3, t3)] [] h_13 := by
   intro t3 h_13 z
   rw [e12] at z
   refine n10 ?_
   refine W.s (fun _ n14 _ q14 _ => ?_)
   refine W.s (fun _ n15 _ _ _ => ?_)
   refine W.r ?_
   refine WL.a (some 14) t3 h_13 ?_
   replace z := oS z; obtain ⟨t15, e16, z⟩ := z
   refine WL.b (some 15) (.int .i64 t15) h_13 (len_row (P := Pg) (h := h_13) (t := 39) (e' := 41) (by kernel_rfl) e16) ?_
   replace z := lS z; obtain ⟨t16, e17, z⟩ := z
   refine WL.val (d := (some 16)) (v := .bool t16) (h' := h_13) (by kernel_rfl) (by kernel_rfl) (val_of AV.bool e17 (by kernel_rfl)) ?_
   refine WL.n ?_
   refine Go.weaken (l' := [(2, newP h), (3, t3), (16, .bool t16)]) (Fr.c (Fr.c (Fr.c Fr.n))) ?_
   refine n15 ?_
   cases t16 with
   | true =>
    replace z := ifB_t z
    refine W.t ?_
    refine W.s (fun _ n18 _ _ _ => ?_)
    refine W.r ?_
    refine WL.a (some 17) t3 h_13 ?_
    replace z := oS z; obtain ⟨t18, e19, z⟩ := z
    refine WL.b (some 18) t18 h_13 (index_row (P := Pg) (h := h_13) (t := 39) (e' := 41) (k := .i64) (by kernel_rfl) (by kernel_rfl) (by kernel_rfl) e19) ?_
    replace z := oS z; obtain ⟨t19, e20, z⟩ := z
    refine WL.b (some 19) (.agg t19) h_13 (load_row (P := Pg) (h := h_13) (t := 41) (by kernel_rfl) (by kernel_rfl) e20) ?_
    replace z := oS z; obtain ⟨h_21, e22, z⟩ := z
    refine WL.e h_21 (store_row (P := Pg) (h := h_13) (t := 41) (v := (.agg t19)) (by kernel_rfl) (by kernel_rfl) e22) ?_
    refine WL.n ?_
    refine Go.weaken (l' := [(2, newP h)]) (Fr.c Fr.n) ?_
    refine n18 ?_
    refine W.ret (by kernel_rfl) ?_
    refine q14 ?_
    replace z := oS z; obtain ⟨w2, e23, z⟩ := z
    obtain ⟨z, hF2⟩ := ret_inj z; subst z; subst hF2
    exact leave_of (rs := [.cell 2 41]) (vs := [.agg w2]) (by kernel_rfl) (res_cell (by kernel_rfl) (load_row (P := Pg) (h := h_21) (t := 41) (by kernel_rfl) (by kernel_rfl) e23) res_nil) (by kernel_rfl)
   | false =>
    replace z := ifB_f z
    refine W.f ?_
    refine W.skip (by kernel_rfl) ?_
    refine n14 ?_
    refine W.s (fun _ n24 _ _ _ => ?_)
    refine W.r ?_
    refine WL.a (some 20) t3 h_13 ?_
    replace z := callN_some z; obtain ⟨r21, h_25, e26, z⟩ := z
    replace z := oS z; obtain ⟨t21, c27, z⟩ := z
    have c27 := avAgg_some c27
    subst c27
    refine WL.c (hc.ok w0) (some 21) e26 ?_
    replace z := oS z; obtain ⟨h_28, e29, z⟩ := z
    refine WL.e h_28 (store_row (P := Pg) (h := h_25) (t := 41) (v := (.agg t21)) (by kernel_rfl) (by kernel_rfl) e29) ?_
    refine WL.n ?_
    refine Go.weaken (l' := [(2, newP h)]) (Fr.c Fr.n) ?_
    refine n24 ?_
    refine W.ret (by kernel_rfl) ?_
    replace z := oS z; obtain ⟨w2_31, e30, z⟩ := z
    obtain ⟨z, hF2⟩ := ret_inj z; subst z; subst hF2
    exact leave_of (rs := [.cell 2 41]) (vs := [.agg w2_31]) (by kernel_rfl) (res_cell (by kernel_rfl) (load_row (P := Pg) (h := h_28) (t := 41) (by kernel_rfl) (by kernel_rfl) e30) res_nil) (by kernel_rfl)
  refine W.blockK (by kernel_rfl) (fun K11 n11 s11 o11 q11 p11 => ?_)
  refine W.loopK (by kernel_rfl) (fun I32 K32 b32 n32 e32 q32 p32 => ?_)
  have L32 : ∀ (m : Nat) (t3_33 : AV) (h_34 : AHeap), pattern_reader_alternatives_L0 call t0 k12 m t3_33 h_34 = some (rR, hR) → Go w0 m0 (Func.ntmps Try.f61) I32 [(0, t0), (2, newP h), (3, t3_33)] [] h_34 := by
   intro m
   induction m with
   | zero => intro t3_33 h_34 z; cases z
   | succ m ih32 =>
    intro t3_33 h_34 z
    rw [pattern_reader_alternatives_L0_s] at z; unfold pattern_reader_alternatives_L0b at z
    refine b32 ?_
    refine W.s (fun _ n35 e35 _ _ => ?_)
    refine W.s (fun _ n36 _ _ _ => ?_)
    refine W.r ?_
    refine WL.a (some 7) t0 h_34 ?_
    replace z := callN_some z; obtain ⟨r8, h_37, e38, z⟩ := z
    replace z := oS z; obtain ⟨t8, c39, z⟩ := z
    have c39 := avBool_some c39
    subst c39
    refine WL.c (hc.ok w0) (some 8) e38 ?_
    refine WL.n ?_
    refine Go.weaken (l' := [(0, t0), (2, newP h), (3, t3_33), (8, .bool t8)]) (Fr.c (Fr.c (Fr.c (Fr.c Fr.n)))) ?_
    refine n36 ?_
    cases t8 with
    | true =>
     replace z := ifB_t z
     refine W.t ?_
     refine W.skip (by kernel_rfl) ?_
     refine n35 ?_
     refine W.blockK (by kernel_rfl) (fun K40 n40 s40 o40 q40 p40 => ?_)
     refine W.r ?_
     refine WL.a (some 9) t3_33 h_37 ?_
     refine WL.a (some 10) t0 h_37 ?_
     replace z := callK_some z; rcases z with ⟨r11, h_41, e42, z⟩ | ⟨r11, h_41, e42, q48⟩
     ·replace z := oS z; obtain ⟨t11, c43, z⟩ := z
      have c43 := avAgg_some c43
      subst c43
      refine WL.c (hc.ok w0) (some 11) e42 ?_
      replace z := outK_some z; obtain ⟨v12, h_44, e45, z⟩ := z
      refine WL.b (some 12) v12 h_44 e45 ?_
      replace z := outK_some z; obtain ⟨v13, h_46, e47, z⟩ := z
      refine WL.b (some 13) v13 h_46 e47 ?_
      refine WL.a (some 3) v13 h_46 ?_
      refine WL.n ?_
      refine Go.weaken (l' := [(0, t0), (2, newP h), (3, v13)]) (Fr.c (Fr.c (Fr.c Fr.n))) ?_
      refine n40 ?_
      refine n32 ?_
      exact Go.weaken (Fr.c (Fr.c (Fr.c Fr.n))) (ih32 _ _ z)
     ·obtain ⟨zq, zr⟩ := pan_inj q48; subst zq; subst zr
      exact WL.callPanic (hc.ok w0) (d := (some 11)) (by kernel_rfl) (by kernel_rfl) (by kernel_rfl) e42 (p40 (p32 (p11 (p10 Pan.fin))))
    | false =>
     replace z := ifB_f z
     refine W.f ?_
     refine W.exit (by kernel_rfl) ?_
     refine e35 ?_
     refine e32 ?_
     refine s11 (by kernel_rfl) ?_
     exact Go.weaken (Fr.c (Fr.c Fr.n)) (J12 _ _ z)
  exact Go.weaken (Fr.c (Fr.c (Fr.c Fr.n))) (L32 _ _ _ z)
 ·obtain ⟨zq, zr⟩ := pan_inj q49; subst zq; subst zr
  exact WL.callPanic (hc.ok w0) (d := (some 5)) (by kernel_rfl) (by kernel_rfl) (by kernel_rfl) e6 (p4 Pan.fin)
noncomputable def pattern_reader_alternatives_fn (call : CallF) (n : Nat) : FnT := fun args h => match args with
 | [x0] => pattern_reader_alternatives call n x0 h
 | _ => none
set_option maxRecDepth 100000 in
theorem pattern_reader_alternatives_fn_eq (call : CallF) (n : Nat) (t0 : AV) (h : AHeap) : pattern_reader_alternatives_fn call n [t0] h = pattern_reader_alternatives call n t0 h :=
 rfl
theorem pattern_reader_alternatives_holds {call : CallF} (hc : SaysAll Pg call) (n : Nat) : Holds Pg 61 (pattern_reader_alternatives_fn call n) := by
 intro args h r h2 e
 unfold pattern_reader_alternatives_fn at e
 split at e
 ·exact pattern_reader_alternatives_ok hc e
 ·cases e
noncomputable def pattern_reader_regularRow_L0b (call : CallF) (t0 : AV) (k7 : AV → AHeap → R) (self : AV → AHeap → R) (t3_17 : AV) (h_18 : AHeap) : R :=
 callN (call 74 [t0] h_18) fun r5 h_21 =>
 obind (avBool r5) fun t5 =>
 lett (!t5) fun (t6 : Bool) =>
 lett (fun (t11 : Bool) (h_25 : AHeap) =>
  lett (fun (t16 : Bool) (h_28 : AHeap) =>
   ifB t16
   (
    callK (call 85 [t0] h_28) fun r19 h_32 =>
    obind (avAgg r19) fun t19 =>
    outK (bldSl Pg h_32 39 1 [(0, .agg t19)]) fun v20 h_35 =>
    outK (opAppend Pg h_35 39 39 t3_17 v20) fun v21 h_37 =>
    self v21 h_37)
   (
    k7 t3_17 h_28)) fun j16 =>
  ifB t11
  (
   callN (call 68 [t0, .int .u8 41] h_25) fun r14 h_40 =>
   obind (avBool r14) fun t14 =>
   lett (!t14) fun (t15 : Bool) =>
   j16 t15 h_40)
  (
   j16 false h_25)) fun j11 =>
 ifB t6
 (
  callN (call 68 [t0, .int .u8 124] h_21) fun r9 h_44 =>
  obind (avBool r9) fun t9 =>
  lett (!t9) fun (t10 : Bool) =>
  j11 t10 h_44)
 (
  j11 false h_21)
noncomputable def pattern_reader_regularRow_L0 (call : CallF) (t0 : AV) (k7 : AV → AHeap → R) : Nat → AV → AHeap → R := iterR (fun _ _ => none) (pattern_reader_regularRow_L0b call t0 k7)
theorem pattern_reader_regularRow_L0_s (call : CallF) (t0 : AV) (k7 : AV → AHeap → R) (m : Nat) : pattern_reader_regularRow_L0 call t0 k7 (m + 1) = pattern_reader_regularRow_L0b call t0 k7 (pattern_reader_regularRow_L0 call t0 k7 m) := rfl
noncomputable def pattern_reader_regularRow (call : CallF) (n : Nat) (t0 : AV) (h : AHeap) : R :=
 lett (newH h 41 [.int .i64 0, .int .u64 0, .int .u64 0, .int .u64 0, .int .u64 0, .nsl]) fun h_2 =>
 lett (fun (t3 : AV) (h_8 : AHeap) =>
  callN (call 75 [t3] h_8) fun r23 h_10 =>
  obind (avAgg r23) fun t23 =>
  obind (stRow h_10 6 t23 (newP h)) fun h_13 =>
  obind (ldRow h_13 6 (newP h)) fun w2 =>
  some (.ret (.agg w2), h_13)) fun k7 =>
 pattern_reader_regularRow_L0 call t0 k7 n AV.nsl h_2
theorem pattern_reader_regularRow_ok {call : CallF} (hc : SaysAll Pg call) {n : Nat} {t0 : AV} {h : AHeap} {rR : ARes} {hR : AHeap} (z : pattern_reader_regularRow call n t0 h = some (rR, hR)) : Says Pg 79 [t0] h rR hR := by
 unfold pattern_reader_regularRow at z
 refine says_of (fn := Try.f79) Try.func79 (c := codeOf Try.f79) (by kernel_rfl) (by kernel_rfl) (fun w0 m0 => ?_)
 refine W.weaken (l' := [(0, t0)]) (Fr.c Fr.n) ?_
 refine W.s (fun _ n1 _ _ p1 => ?_)
 refine W.r ?_
 replace z := lS z; obtain ⟨h_2, e3, z⟩ := z
 refine WL.val (d := (some 2)) (v := (newP h)) (h' := h_2) (by kernel_rfl) (by kernel_rfl) (val_ofH e3 (by kernel_rfl)) ?_
 refine WL.n ?_
 refine Go.weaken (l' := [(0, t0), (2, newP h)]) (Fr.c (Fr.c Fr.n)) ?_
 refine n1 ?_
 refine W.s (fun _ n4 _ _ _ => ?_)
 refine W.r ?_
 refine WL.a (some 3) AV.nsl h_2 ?_
 refine WL.n ?_
 refine Go.weaken (l' := [(0, t0), (2, newP h), (3, AV.nsl)]) (Fr.c (Fr.c (Fr.c Fr.n))) ?_
 refine n4 ?_
 refine W.s (fun K5 n5 _ _ p5 => ?_)
 replace z := lS z; obtain ⟨k7, e7, z⟩ := z
 have J7 : ∀ (t3 : AV) (h_8 : AHeap), k7 t3 h_8 = some (rR, hR) → Go w0 m0 (Func.ntmps Try.f79) (K5 .normal) [(2, newP h), (3, t3)] [] h_8 := by
  intro t3 h_8 z
  rw [e7] at z
  refine n5 ?_
  refine W.s (fun _ n9 _ _ _ => ?_)
  refine W.r ?_
  refine WL.a (some 22) t3 h_8 ?_
  replace z := callN_some z; obtain ⟨r23, h_10, e11, z⟩ := z
  replace z := oS z; obtain ⟨t23, c12, z⟩ := z
  have c12 := avAgg_some c12
  subst c12
  refine WL.c (hc.ok w0) (some 23) e11 ?_
  replace z := oS z; obtain ⟨h_13, e14, z⟩ := z
  refine WL.e h_13 (store_row (P := Pg) (h := h_10) (t := 41) (v := (.agg t23)) (by kernel_rfl) (by kernel_rfl) e14) ?_
  refine WL.n ?_
  refine Go.weaken (l' := [(2, newP h)]) (Fr.c Fr.n) ?_
  refine n9 ?_
  refine W.ret (by kernel_rfl) ?_
  replace z := oS z; obtain ⟨w2, e15, z⟩ := z
  obtain ⟨z, hF2⟩ := ret_inj z; subst z; subst hF2
  exact leave_of (rs := [.cell 2 41]) (vs := [.agg w2]) (by kernel_rfl) (res_cell (by kernel_rfl) (load_row (P := Pg) (h := h_13) (t := 41) (by kernel_rfl) (by kernel_rfl) e15) res_nil) (by kernel_rfl)
 refine W.blockK (by kernel_rfl) (fun K6 n6 s6 o6 q6 p6 => ?_)
 refine W.loopK (by kernel_rfl) (fun I16 K16 b16 n16 e16 q16 p16 => ?_)
 have L16 : ∀ (m : Nat) (t3_17 : AV) (h_18 : AHeap), pattern_reader_regularRow_L0 call t0 k7 m t3_17 h_18 = some (rR, hR) → Go w0 m0 (Func.ntmps Try.f79) I16 [(0, t0), (2, newP h), (3, t3_17)] [] h_18 := by
  intro m
  induction m with
  | zero => intro t3_17 h_18 z; cases z
  | succ m ih16 =>
   intro t3_17 h_18 z
   rw [pattern_reader_regularRow_L0_s] at z; unfold pattern_reader_regularRow_L0b at z
   refine b16 ?_
   refine W.s (fun _ n19 e19 _ _ => ?_)
   refine W.s (fun K20 n20 _ _ _ => ?_)
   refine W.r ?_
   refine WL.a (some 4) t0 h_18 ?_
   replace z := callN_some z; obtain ⟨r5, h_21, e22, z⟩ := z
   replace z := oS z; obtain ⟨t5, c23, z⟩ := z
   have c23 := avBool_some c23
   subst c23
   refine WL.c (hc.ok w0) (some 5) e22 ?_
   replace z := lS z; obtain ⟨t6, e24, z⟩ := z
   refine WL.val (d := (some 6)) (v := .bool t6) (h' := h_21) (by kernel_rfl) (by kernel_rfl) (val_of AV.bool e24 (by kernel_rfl)) ?_
   refine WL.a (some 7) (.bool t6) h_21 ?_
   replace z := lS z; obtain ⟨j11, e26, z⟩ := z
   have J27 : ∀ (t11 : Bool) (h_25 : AHeap), j11 t11 h_25 = some (rR, hR) → WL Pg w0 m0 (Func.ntmps Try.f79) (Code.ops (Code.p1 (Code.p1 (Code.p1 (Code.p1 (Code.p1 (Code.p2 (Code.p2 (codeOf Try.f79))))))))) 8 K20 [(0, t0), (2, newP h), (3, t3_17), (11, .bool t11)] [] h_25 := by
    intro t11 h_25 z
    rw [e26] at z
    refine WL.a (some 12) (.bool t11) h_25 ?_
    replace z := lS z; obtain ⟨j16, e29, z⟩ := z
    have J30 : ∀ (t16 : Bool) (h_28 : AHeap), j16 t16 h_28 = some (rR, hR) → WL Pg w0 m0 (Func.ntmps Try.f79) (Code.ops (Code.p1 (Code.p1 (Code.p1 (Code.p1 (Code.p1 (Code.p2 (Code.p2 (codeOf Try.f79))))))))) 13 K20 [(0, t0), (2, newP h), (3, t3_17), (16, .bool t16)] [] h_28 := by
     intro t16 h_28 z
     rw [e29] at z
     refine WL.n ?_
     refine Go.weaken (l' := [(0, t0), (2, newP h), (3, t3_17), (16, .bool t16)]) (Fr.c (Fr.c (Fr.c (Fr.c Fr.n)))) ?_
     refine n20 ?_
     cases t16 with
     | true =>
      replace z := ifB_t z
      refine W.t ?_
      refine W.skip (by kernel_rfl) ?_
      refine n19 ?_
      refine W.blockK (by kernel_rfl) (fun K31 n31 s31 o31 q31 p31 => ?_)
      refine W.r ?_
      refine WL.a (some 17) t3_17 h_28 ?_
      refine WL.a (some 18) t0 h_28 ?_
      replace z := callK_some z; rcases z with ⟨r19, h_32, e33, z⟩ | ⟨r19, h_32, e33, q39⟩
      ·replace z := oS z; obtain ⟨t19, c34, z⟩ := z
       have c34 := avAgg_some c34
       subst c34
       refine WL.c (hc.ok w0) (some 19) e33 ?_
       replace z := outK_some z; obtain ⟨v20, h_35, e36, z⟩ := z
       refine WL.b (some 20) v20 h_35 e36 ?_
       replace z := outK_some z; obtain ⟨v21, h_37, e38, z⟩ := z
       refine WL.b (some 21) v21 h_37 e38 ?_
       refine WL.a (some 3) v21 h_37 ?_
       refine WL.n ?_
       refine Go.weaken (l' := [(0, t0), (2, newP h), (3, v21)]) (Fr.c (Fr.c (Fr.c Fr.n))) ?_
       refine n31 ?_
       refine n16 ?_
       exact Go.weaken (Fr.c (Fr.c (Fr.c Fr.n))) (ih16 _ _ z)
      ·obtain ⟨zq, zr⟩ := pan_inj q39; subst zq; subst zr
       exact WL.callPanic (hc.ok w0) (d := (some 19)) (by kernel_rfl) (by kernel_rfl) (by kernel_rfl) e33 (p31 (p16 (p6 (p5 Pan.fin))))
     | false =>
      replace z := ifB_f z
      refine W.f ?_
      refine W.exit (by kernel_rfl) ?_
      refine e19 ?_
      refine e16 ?_
      refine s6 (by kernel_rfl) ?_
      exact Go.weaken (Fr.c (Fr.c Fr.n)) (J7 _ _ z)
    cases t11 with
    | true =>
     replace z := ifB_t z
     refine WL.a (some 13) t0 h_25 ?_
     replace z := callN_some z; obtain ⟨r14, h_40, e41, z⟩ := z
     replace z := oS z; obtain ⟨t14, c42, z⟩ := z
     have c42 := avBool_some c42
     subst c42
     refine WL.c (hc.ok w0) (some 14) e41 ?_
     replace z := lS z; obtain ⟨t15, e43, z⟩ := z
     refine WL.val (d := (some 15)) (v := .bool t15) (h' := h_40) (by kernel_rfl) (by kernel_rfl) (val_of AV.bool e43 (by kernel_rfl)) ?_
     refine WL.a (some 16) (.bool t15) h_40 ?_
     exact WL.weaken (Fr.c (Fr.c (Fr.c (Fr.c Fr.n)))) (J30 _ _ z)
    | false =>
     replace z := ifB_f z
     refine WL.o (some 13) ?_
     refine WL.o (some 14) ?_
     refine WL.o (some 15) ?_
     refine WL.a (some 16) (.bool false) h_25 ?_
     exact WL.weaken (Fr.c (Fr.c (Fr.c (Fr.c Fr.n)))) (J30 _ _ z)
   cases t6 with
   | true =>
    replace z := ifB_t z
    refine WL.a (some 8) t0 h_21 ?_
    replace z := callN_some z; obtain ⟨r9, h_44, e45, z⟩ := z
    replace z := oS z; obtain ⟨t9, c46, z⟩ := z
    have c46 := avBool_some c46
    subst c46
    refine WL.c (hc.ok w0) (some 9) e45 ?_
    replace z := lS z; obtain ⟨t10, e47, z⟩ := z
    refine WL.val (d := (some 10)) (v := .bool t10) (h' := h_44) (by kernel_rfl) (by kernel_rfl) (val_of AV.bool e47 (by kernel_rfl)) ?_
    refine WL.a (some 11) (.bool t10) h_44 ?_
    exact WL.weaken (Fr.c (Fr.c (Fr.c (Fr.c Fr.n)))) (J27 _ _ z)
   | false =>
    replace z := ifB_f z
    refine WL.o (some 8) ?_
    refine WL.o (some 9) ?_
    refine WL.o (some 10) ?_
    refine WL.a (some 11) (.bool false) h_21 ?_
    exact WL.weaken (Fr.c (Fr.c (Fr.c (Fr.c Fr.n)))) (J27 _ _ z)
 exact Go.weaken (Fr.c (Fr.c (Fr.c Fr.n))) (L16 _ _ _ z)
noncomputable def pattern_reader_regularRow_fn (call : CallF) (n : Nat) : FnT := fun args h => match args with
 | [x0] => pattern_reader_regularRow call n x0 h
 | _ => none
set_option maxRecDepth 100000 in
theorem pattern_reader_regularRow_fn_eq (call : CallF) (n : Nat) (t0 : AV) (h : AHeap) : pattern_reader_regularRow_fn call n [t0] h = pattern_reader_regularRow call n t0 h :=
 rfl
theorem pattern_reader_regularRow_holds {call : CallF} (hc : SaysAll Pg call) (n : Nat) : Holds Pg 79 (pattern_reader_regularRow_fn call n) := by
 intro args h r h2 e
 unfold pattern_reader_regularRow_fn at e
 split at e
 ·exact pattern_reader_regularRow_ok hc e
 ·cases e
noncomputable def pattern_reader_regularPart (call : CallF) (_ : Nat) (t0 : AV) (h : AHeap) : R :=
 lett (newH h 41 [.int .i64 0, .int .u64 0, .int .u64 0, .int .u64 0, .int .u64 0, .nsl]) fun h_2 =>
 callK (call 88 [t0] h_2) fun r5 h_5 =>
 obind (avAgg r5) fun t5 =>
 lett (newH h_5 41 [.int .i64 0, .int .u64 0, .int .u64 0, .int .u64 0, .int .u64 0, .nsl]) fun h_8 =>
 obind (stRow h_8 6 t5 (newP h_5)) fun h_10 =>
 callN (call 55 [t0, .int .u8 42] h_10) fun r8 h_15 =>
 obind (avBool r8) fun t8 =>
 ifB t8
 (
  obind (ldRow h_15 6 (newP h_5)) fun t9 =>
  outK (bldSl Pg h_15 39 1 [(0, .agg t9)]) fun v10 h_20 =>
  callN (call 76 [.int .i64 5, v10] h_20) fun r11 h_22 =>
  obind (avAgg r11) fun t11 =>
  obind (stRow h_22 6 t11 (newP h)) fun h_25 =>
  obind (ldRow h_25 6 (newP h)) fun w2 =>
  some (.ret (.agg w2), h_25))
 (
  callN (call 55 [t0, .int .u8 43] h_15) fun r14 h_29 =>
  obind (avBool r14) fun t14 =>
  ifB t14
  (
   obind (ldRow h_29 6 (newP h_5)) fun t15 =>
   outK (bldSl Pg h_29 39 1 [(0, .agg t15)]) fun v16 h_34 =>
   callN (call 76 [.int .i64 6, v16] h_34) fun r17 h_36 =>
   obind (avAgg r17) fun t17 =>
   obind (stRow h_36 6 t17 (newP h)) fun h_39 =>
   obind (ldRow h_39 6 (newP h)) fun w2_42 =>
   some (.ret (.agg w2_42), h_39))
  (
   callN (call 55 [t0, .int .u8 63] h_29) fun r20 h_44 =>
   obind (avBool r20) fun t20 =>
   ifB t20
   (
    obind (ldRow h_44 6 (newP h_5)) fun t21 =>
    outK (bldSl Pg h_44 39 1 [(0, .agg t21)]) fun v22 h_49 =>
    callN (call 76 [.int .i64 7, v22] h_49) fun r23 h_51 =>
    obind (avAgg r23) fun t23 =>
    obind (stRow h_51 6 t23 (newP h)) fun h_54 =>
    obind (ldRow h_54 6 (newP h)) fun w2_57 =>
    some (.ret (.agg w2_57), h_54))
   (
    obind (ldRow h_44 6 (newP h_5)) fun t24 =>
    obind (stRow h_44 6 t24 (newP h)) fun h_60 =>
    obind (ldRow h_60 6 (newP h)) fun w2_63 =>
    some (.ret (.agg w2_63), h_60))))
theorem pattern_reader_regularPart_ok {call : CallF} (hc : SaysAll Pg call) {n : Nat} {t0 : AV} {h : AHeap} {rR : ARes} {hR : AHeap} (z : pattern_reader_regularPart call n t0 h = some (rR, hR)) : Says Pg 85 [t0] h rR hR := by
 unfold pattern_reader_regularPart at z
 refine says_of (fn := Try.f85) Try.func85 (c := codeOf Try.f85) (by kernel_rfl) (by kernel_rfl) (fun w0 m0 => ?_)
 refine W.weaken (l' := [(0, t0)]) (Fr.c Fr.n) ?_
 refine W.s (fun _ n1 _ _ _ => ?_)
 refine W.r ?_
 replace z := lS z; obtain ⟨h_2, e3, z⟩ := z
 refine WL.val (d := (some 2)) (v := (newP h)) (h' := h_2) (by kernel_rfl) (by kernel_rfl) (val_ofH e3 (by kernel_rfl)) ?_
 refine WL.n ?_
 refine Go.weaken (l' := [(0, t0), (2, newP h)]) (Fr.c (Fr.c Fr.n)) ?_
 refine n1 ?_
 refine W.s (fun _ n4 _ _ p4 => ?_)
 refine W.r ?_
 refine WL.a (some 4) t0 h_2 ?_
 replace z := callK_some z; rcases z with ⟨r5, h_5, e6, z⟩ | ⟨r5, h_5, e6, q64⟩
 ·replace z := oS z; obtain ⟨t5, c7, z⟩ := z
  have c7 := avAgg_some c7
  subst c7
  refine WL.c (hc.ok w0) (some 5) e6 ?_
  replace z := lS z; obtain ⟨h_8, e9, z⟩ := z
  refine WL.val (d := (some 3)) (v := (newP h_5)) (h' := h_8) (by kernel_rfl) (by kernel_rfl) (val_ofH e9 (by kernel_rfl)) ?_
  replace z := oS z; obtain ⟨h_10, e11, z⟩ := z
  refine WL.e h_10 (store_row (P := Pg) (h := h_8) (t := 41) (v := (.agg t5)) (by kernel_rfl) (by kernel_rfl) e11) ?_
  refine WL.n ?_
  refine Go.weaken (l' := [(0, t0), (2, newP h), (3, newP h_5)]) (Fr.c (Fr.c (Fr.c Fr.n))) ?_
  refine n4 ?_
  refine W.s (fun _ n12 _ q12 _ => ?_)
  refine W.blockK (by kernel_rfl) (fun K13 n13 s13 o13 q13 p13 => ?_)
  refine W.s (fun _ n14 _ _ _ => ?_)
  refine W.r ?_
  refine WL.a (some 7) t0 h_10 ?_
  replace z := callN_some z; obtain ⟨r8, h_15, e16, z⟩ := z
  replace z := oS z; obtain ⟨t8, c17, z⟩ := z
  have c17 := avBool_some c17
  subst c17
  refine WL.c (hc.ok w0) (some 8) e16 ?_
  refine WL.a (some 6) (.bool t8) h_15 ?_
  refine WL.n ?_
  refine Go.weaken (l' := [(0, t0), (2, newP h), (3, newP h_5), (6, .bool t8)]) (Fr.c (Fr.c (Fr.c (Fr.c Fr.n)))) ?_
  refine n14 ?_
  cases t8 with
  | true =>
   replace z := ifB_t z
   refine W.t ?_
   refine W.s (fun _ n18 _ _ _ => ?_)
   refine W.r ?_
   replace z := oS z; obtain ⟨t9, e19, z⟩ := z
   refine WL.b (some 9) (.agg t9) h_15 (load_row (P := Pg) (h := h_15) (t := 41) (by kernel_rfl) (by kernel_rfl) e19) ?_
   replace z := outK_some z; obtain ⟨v10, h_20, e21, z⟩ := z
   refine WL.b (some 10) v10 h_20 e21 ?_
   replace z := callN_some z; obtain ⟨r11, h_22, e23, z⟩ := z
   replace z := oS z; obtain ⟨t11, c24, z⟩ := z
   have c24 := avAgg_some c24
   subst c24
   refine WL.c (hc.ok w0) (some 11) e23 ?_
   replace z := oS z; obtain ⟨h_25, e26, z⟩ := z
   refine WL.e h_25 (store_row (P := Pg) (h := h_22) (t := 41) (v := (.agg t11)) (by kernel_rfl) (by kernel_rfl) e26) ?_
   refine WL.n ?_
   refine Go.weaken (l' := [(2, newP h)]) (Fr.c Fr.n) ?_
   refine n18 ?_
   refine W.ret (by kernel_rfl) ?_
   refine q13 ?_
   refine q12 ?_
   replace z := oS z; obtain ⟨w2, e27, z⟩ := z
   obtain ⟨z, hF2⟩ := ret_inj z; subst z; subst hF2
   exact leave_of (rs := [.cell 2 41]) (vs := [.agg w2]) (by kernel_rfl) (res_cell (by kernel_rfl) (load_row (P := Pg) (h := h_25) (t := 41) (by kernel_rfl) (by kernel_rfl) e27) res_nil) (by kernel_rfl)
  | false =>
   replace z := ifB_f z
   refine W.f ?_
   refine W.s (fun _ n28 _ _ _ => ?_)
   refine W.r ?_
   refine WL.a (some 13) t0 h_15 ?_
   replace z := callN_some z; obtain ⟨r14, h_29, e30, z⟩ := z
   replace z := oS z; obtain ⟨t14, c31, z⟩ := z
   have c31 := avBool_some c31
   subst c31
   refine WL.c (hc.ok w0) (some 14) e30 ?_
   refine WL.a (some 12) (.bool t14) h_29 ?_
   refine WL.n ?_
   refine Go.weaken (l' := [(0, t0), (2, newP h), (3, newP h_5), (12, .bool t14)]) (Fr.c (Fr.c (Fr.c (Fr.c Fr.n)))) ?_
   refine n28 ?_
   cases t14 with
   | true =>
    replace z := ifB_t z
    refine W.t ?_
    refine W.s (fun _ n32 _ _ _ => ?_)
    refine W.r ?_
    replace z := oS z; obtain ⟨t15, e33, z⟩ := z
    refine WL.b (some 15) (.agg t15) h_29 (load_row (P := Pg) (h := h_29) (t := 41) (by kernel_rfl) (by kernel_rfl) e33) ?_
    replace z := outK_some z; obtain ⟨v16, h_34, e35, z⟩ := z
    refine WL.b (some 16) v16 h_34 e35 ?_
    replace z := callN_some z; obtain ⟨r17, h_36, e37, z⟩ := z
    replace z := oS z; obtain ⟨t17, c38, z⟩ := z
    have c38 := avAgg_some c38
    subst c38
    refine WL.c (hc.ok w0) (some 17) e37 ?_
    replace z := oS z; obtain ⟨h_39, e40, z⟩ := z
    refine WL.e h_39 (store_row (P := Pg) (h := h_36) (t := 41) (v := (.agg t17)) (by kernel_rfl) (by kernel_rfl) e40) ?_
    refine WL.n ?_
    refine Go.weaken (l' := [(2, newP h)]) (Fr.c Fr.n) ?_
    refine n32 ?_
    refine W.ret (by kernel_rfl) ?_
    refine q13 ?_
    refine q12 ?_
    replace z := oS z; obtain ⟨w2_42, e41, z⟩ := z
    obtain ⟨z, hF2⟩ := ret_inj z; subst z; subst hF2
    exact leave_of (rs := [.cell 2 41]) (vs := [.agg w2_42]) (by kernel_rfl) (res_cell (by kernel_rfl) (load_row (P := Pg) (h := h_39) (t := 41) (by kernel_rfl) (by kernel_rfl) e41) res_nil) (by kernel_rfl)
   | false =>
    replace z := ifB_f z
    refine W.f ?_
    refine W.s (fun _ n43 _ _ _ => ?_)
    refine W.r ?_
    refine WL.a (some 19) t0 h_29 ?_
    replace z := callN_some z; obtain ⟨r20, h_44, e45, z⟩ := z
    replace z := oS z; obtain ⟨t20, c46, z⟩ := z
    have c46 := avBool_some c46
    subst c46
    refine WL.c (hc.ok w0) (some 20) e45 ?_
    refine WL.a (some 18) (.bool t20) h_44 ?_
    refine WL.n ?_
    refine Go.weaken (l' := [(2, newP h), (3, newP h_5), (18, .bool t20)]) (Fr.c (Fr.c (Fr.c Fr.n))) ?_
    refine n43 ?_
    cases t20 with
    | true =>
     replace z := ifB_t z
     refine W.t ?_
     refine W.s (fun _ n47 _ _ _ => ?_)
     refine W.r ?_
     replace z := oS z; obtain ⟨t21, e48, z⟩ := z
     refine WL.b (some 21) (.agg t21) h_44 (load_row (P := Pg) (h := h_44) (t := 41) (by kernel_rfl) (by kernel_rfl) e48) ?_
     replace z := outK_some z; obtain ⟨v22, h_49, e50, z⟩ := z
     refine WL.b (some 22) v22 h_49 e50 ?_
     replace z := callN_some z; obtain ⟨r23, h_51, e52, z⟩ := z
     replace z := oS z; obtain ⟨t23, c53, z⟩ := z
     have c53 := avAgg_some c53
     subst c53
     refine WL.c (hc.ok w0) (some 23) e52 ?_
     replace z := oS z; obtain ⟨h_54, e55, z⟩ := z
     refine WL.e h_54 (store_row (P := Pg) (h := h_51) (t := 41) (v := (.agg t23)) (by kernel_rfl) (by kernel_rfl) e55) ?_
     refine WL.n ?_
     refine Go.weaken (l' := [(2, newP h)]) (Fr.c Fr.n) ?_
     refine n47 ?_
     refine W.ret (by kernel_rfl) ?_
     refine q13 ?_
     refine q12 ?_
     replace z := oS z; obtain ⟨w2_57, e56, z⟩ := z
     obtain ⟨z, hF2⟩ := ret_inj z; subst z; subst hF2
     exact leave_of (rs := [.cell 2 41]) (vs := [.agg w2_57]) (by kernel_rfl) (res_cell (by kernel_rfl) (load_row (P := Pg) (h := h_54) (t := 41) (by kernel_rfl) (by kernel_rfl) e56) res_nil) (by kernel_rfl)
    | false =>
     replace z := ifB_f z
     refine W.f ?_
     refine W.skip (by kernel_rfl) ?_
     refine n13 ?_
     refine n12 ?_
     refine W.s (fun _ n58 _ _ _ => ?_)
     refine W.r ?_
     replace z := oS z; obtain ⟨t24, e59, z⟩ := z
     refine WL.b (some 24) (.agg t24) h_44 (load_row (P := Pg) (h := h_44) (t := 41) (by kernel_rfl) (by kernel_rfl) e59) ?_
     replace z := oS z; obtain ⟨h_60, e61, z⟩ := z
     refine WL.e h_60 (store_row (P := Pg) (h := h_44) (t := 41) (v := (.agg t24)) (by kernel_rfl) (by kernel_rfl) e61) ?_
     refine WL.n ?_
     refine Go.weaken (l' := [(2, newP h)]) (Fr.c Fr.n) ?_
     refine n58 ?_
     refine W.ret (by kernel_rfl) ?_
     replace z := oS z; obtain ⟨w2_63, e62, z⟩ := z
     obtain ⟨z, hF2⟩ := ret_inj z; subst z; subst hF2
     exact leave_of (rs := [.cell 2 41]) (vs := [.agg w2_63]) (by kernel_rfl) (res_cell (by kernel_rfl) (load_row (P := Pg) (h := h_60) (t := 41) (by kernel_rfl) (by kernel_rfl) e62) res_nil) (by kernel_rfl)
 ·obtain ⟨zq, zr⟩ := pan_inj q64; subst zq; subst zr
  exact WL.callPanic (hc.ok w0) (d := (some 5)) (by kernel_rfl) (by kernel_rfl) (by kernel_rfl) e6 (p4 Pan.fin)
noncomputable def pattern_reader_regularPart_fn (call : CallF) (n : Nat) : FnT := fun args h => match args with
 | [x0] => pattern_reader_regularPart call n x0 h
 | _ => none
set_option maxRecDepth 100000 in
theorem pattern_reader_regularPart_fn_eq (call : CallF) (n : Nat) (t0 : AV) (h : AHeap) : pattern_reader_regularPart_fn call n [t0] h = pattern_reader_regularPart call n t0 h :=
 rfl
theorem pattern_reader_regularPart_holds {call : CallF} (hc : SaysAll Pg call) (n : Nat) : Holds Pg 85 (pattern_reader_regularPart_fn call n) := by
 intro args h r h2 e
 unfold pattern_reader_regularPart_fn at e
 split at e
 ·exact pattern_reader_regularPart_ok hc e
 ·cases e
noncomputable def pattern_reader_atom (call : CallF) (_ : Nat) (t0 : AV) (h : AHeap) : R :=
 lett (newH h 41 [.int .i64 0, .int .u64 0, .int .u64 0, .int .u64 0, .int .u64 0, .nsl]) fun h_2 =>
 callK (call 71 [t0] h_2) fun r6 h_5 =>
 obind (avInt .u8 r6) fun t6 =>
 lett ((t6 : Int) == 40) fun (t9 : Bool) =>
 ifB t9
 (
  callK (call 61 [t0] h_5) fun r11 h_14 =>
  obind (avAgg r11) fun t11 =>
  lett (newH h_14 41 [.int .i64 0, .int .u64 0, .int .u64 0, .int .u64 0, .int .u64 0, .nsl]) fun h_17 =>
  obind (stRow h_17 6 t11 (newP h_14)) fun h_19 =>
  callK (call 54 [t0, .int .u8 41] h_19) fun _ h_22 =>
  obind (ldRow h_22 6 (newP h_14)) fun t14 =>
  obind (stRow h_22 6 t14 (newP h)) fun h_26 =>
  obind (ldRow h_26 6 (newP h)) fun w2 =>
  some (.ret (.agg w2), h_26))
 (
  lett ((t6 : Int) == 46) fun (t16 : Bool) =>
  ifB t16
  (
   callN (call 77 [] h_5) fun r17 h_34 =>
   obind (avAgg r17) fun t17 =>
   obind (stRow h_34 6 t17 (newP h)) fun h_37 =>
   obind (ldRow h_37 6 (newP h)) fun w2_40 =>
   some (.ret (.agg w2_40), h_37))
  (
   lett ((t6 : Int) == 91) fun (t19 : Bool) =>
   ifB t19
   (
    callK (call 91 [t0] h_5) fun r21 h_44 =>
    obind (avAgg r21) fun t21 =>
    obind (bldS Pg 41 [(0, .int .i64 2), (1, .agg t21)]) fun t22 =>
    obind (stRow h_44 6 t22 (newP h)) fun h_48 =>
    obind (ldRow h_48 6 (newP h)) fun w2_51 =>
    some (.ret (.agg w2_51), h_48))
   (
    lett ((t6 : Int) == 92) fun (t24 : Bool) =>
    ifB t24
    (
     callK (call 71 [t0] h_5) fun r26 h_56 =>
     obind (avInt .u8 r26) fun t26 =>
     callN (call 78 [.int .u8 t26] h_56) fun r27 h_59 =>
     obind (avAgg r27) fun t27 =>
     obind (stRow h_59 6 t27 (newP h)) fun h_62 =>
     obind (ldRow h_62 6 (newP h)) fun w2_65 =>
     some (.ret (.agg w2_65), h_62))
    (
     lett ((t6 : Int) == 124) fun (t29 : Bool) =>
     lett (fun (t28 : Bool) (h_71 : AHeap) =>
      lett (fun  (h_73 : AHeap) =>
       callN (call 78 [.int .u8 t6] h_73) fun r38 h_75 =>
       obind (avAgg r38) fun t38 =>
       obind (stRow h_75 6 t38 (newP h)) fun h_78 =>
       obind (ldRow h_78 6 (newP h)) fun w2_81 =>
       some (.ret (.agg w2_81), h_78)) fun k72 =>
      ifB t28
      (
       callK (call 72 [t0] h_71) fun _ h_82 =>
       k72 h_82)
      (
       k72 h_71)) fun k70 =>
     ifB t29
     (
      k70 true h_5)
     (
      lett ((t6 : Int) == 41) fun (t30 : Bool) =>
      lett (fun (t28_88 : Bool) (h_89 : AHeap) =>
       k70 t28_88 h_89) fun k87 =>
      ifB t30
      (
       k87 true h_5)
      (
       lett ((t6 : Int) == 42) fun (t31 : Bool) =>
       lett (fun (t28_93 : Bool) (h_94 : AHeap) =>
        k87 t28_93 h_94) fun k92 =>
       ifB t31
       (
        k92 true h_5)
       (
        lett ((t6 : Int) == 43) fun (t32 : Bool) =>
        lett (fun (t28_98 : Bool) (h_99 : AHeap) =>
         k92 t28_98 h_99) fun k97 =>
        ifB t32
        (
         k97 true h_5)
        (
         lett ((t6 : Int) == 63) fun (t33 : Bool) =>
         lett (fun (t28_103 : Bool) (h_104 : AHeap) =>
          k97 t28_103 h_104) fun k102 =>
         ifB t33
         (
          k102 true h_5)
         (
          lett ((t6 : Int) == 93) fun (t34 : Bool) =>
          k102 t34 h_5)))))))))
theorem pattern_reader_atom_ok {call : CallF} (hc : SaysAll Pg call) {n : Nat} {t0 : AV} {h : AHeap} {rR : ARes} {hR : AHeap} (z : pattern_reader_atom call n t0 h = some (rR, hR)) : Says Pg 88 [t0] h rR hR := by
 unfold pattern_reader_atom at z
 refine says_of (fn := Try.f88) Try.func88 (c := codeOf Try.f88) (by kernel_rfl) (by kernel_rfl) (fun w0 m0 => ?_)
 refine W.weaken (l' := [(0, t0)]) (Fr.c Fr.n) ?_
 refine W.s (fun _ n1 _ _ _ => ?_)
 refine W.r ?_
 replace z := lS z; obtain ⟨h_2, e3, z⟩ := z
 refine WL.val (d := (some 2)) (v := (newP h)) (h' := h_2) (by kernel_rfl) (by kernel_rfl) (val_ofH e3 (by kernel_rfl)) ?_
 refine WL.n ?_
 refine Go.weaken (l' := [(0, t0), (2, newP h)]) (Fr.c (Fr.c Fr.n)) ?_
 refine n1 ?_
 refine W.s (fun _ n4 _ _ p4 => ?_)
 refine W.r ?_
 refine WL.a (some 5) t0 h_2 ?_
 replace z := callK_some z; rcases z with ⟨r6, h_5, e6, z⟩ | ⟨r6, h_5, e6, q106⟩
 ·replace z := oS z; obtain ⟨t6, c7, z⟩ := z
  have c7 := avInt_some c7
  subst c7
  refine WL.c (hc.ok w0) (some 6) e6 ?_
  refine WL.a (some 3) (.int .u8 t6) h_5 ?_
  refine WL.n ?_
  refine Go.weaken (l' := [(0, t0), (2, newP h), (3, .int .u8 t6)]) (Fr.c (Fr.c (Fr.c Fr.n))) ?_
  refine n4 ?_
  refine W.s (fun _ n8 _ q8 p8 => ?_)
  refine W.s (fun _ n9 _ _ _ => ?_)
  refine W.r ?_
  refine WL.a (some 7) (.int .u8 t6) h_5 ?_
  refine WL.n ?_
  refine Go.weaken (l' := [(0, t0), (2, newP h), (3, .int .u8 t6), (7, .int .u8 t6)]) (Fr.c (Fr.c (Fr.c (Fr.c Fr.n)))) ?_
  refine n9 ?_
  refine W.blockK (by kernel_rfl) (fun K10 n10 s10 o10 q10 p10 => ?_)
  refine W.s (fun _ n11 _ _ _ => ?_)
  refine W.r ?_
  replace z := lS z; obtain ⟨t9, e12, z⟩ := z
  refine WL.val (d := (some 9)) (v := .bool t9) (h' := h_5) (by kernel_rfl) (by kernel_rfl) (val_of AV.bool e12 (by kernel_rfl)) ?_
  refine WL.a (some 8) (.bool t9) h_5 ?_
  refine WL.n ?_
  refine Go.weaken (l' := [(0, t0), (2, newP h), (3, .int .u8 t6), (7, .int .u8 t6), (8, .bool t9)]) (Fr.c (Fr.c (Fr.c (Fr.c (Fr.c Fr.n))))) ?_
  refine n11 ?_
  cases t9 with
  | true =>
   replace z := ifB_t z
   refine W.t ?_
   refine W.s (fun _ n13 _ _ p13 => ?_)
   refine W.r ?_
   refine WL.a (some 10) t0 h_5 ?_
   replace z := callK_some z; rcases z with ⟨r11, h_14, e15, z⟩ | ⟨r11, h_14, e15, q30⟩
   ·replace z := oS z; obtain ⟨t11, c16, z⟩ := z
    have c16 := avAgg_some c16
    subst c16
    refine WL.c (hc.ok w0) (some 11) e15 ?_
    replace z := lS z; obtain ⟨h_17, e18, z⟩ := z
    refine WL.val (d := (some 4)) (v := (newP h_14)) (h' := h_17) (by kernel_rfl) (by kernel_rfl) (val_ofH e18 (by kernel_rfl)) ?_
    replace z := oS z; obtain ⟨h_19, e20, z⟩ := z
    refine WL.e h_19 (store_row (P := Pg) (h := h_17) (t := 41) (v := (.agg t11)) (by kernel_rfl) (by kernel_rfl) e20) ?_
    refine WL.n ?_
    refine Go.weaken (l' := [(0, t0), (2, newP h), (4, newP h_14)]) (Fr.c (Fr.c (Fr.c Fr.n))) ?_
    refine n13 ?_
    refine W.s (fun _ n21 _ _ p21 => ?_)
    refine W.r ?_
    refine WL.a (some 12) t0 h_19 ?_
    replace z := callK_some z; rcases z with ⟨r13, h_22, e23, z⟩ | ⟨r13, h_22, e23, q29⟩
    ·refine WL.c (hc.ok w0) (some 13) e23 ?_
     refine WL.n ?_
     refine Go.weaken (l' := [(2, newP h), (4, newP h_14)]) (Fr.c (Fr.c Fr.n)) ?_
     refine n21 ?_
     refine W.s (fun _ n24 _ _ _ => ?_)
     refine W.r ?_
     replace z := oS z; obtain ⟨t14, e25, z⟩ := z
     refine WL.b (some 14) (.agg t14) h_22 (load_row (P := Pg) (h := h_22) (t := 41) (by kernel_rfl) (by kernel_rfl) e25) ?_
     replace z := oS z; obtain ⟨h_26, e27, z⟩ := z
     refine WL.e h_26 (store_row (P := Pg) (h := h_22) (t := 41) (v := (.agg t14)) (by kernel_rfl) (by kernel_rfl) e27) ?_
     refine WL.n ?_
     refine Go.weaken (l' := [(2, newP h)]) (Fr.c Fr.n) ?_
     refine n24 ?_
     refine W.ret (by kernel_rfl) ?_
     refine q10 ?_
     refine q8 ?_
     replace z := oS z; obtain ⟨w2, e28, z⟩ := z
     obtain ⟨z, hF2⟩ := ret_inj z; subst z; subst hF2
     exact leave_of (rs := [.cell 2 41]) (vs := [.agg w2]) (by kernel_rfl) (res_cell (by kernel_rfl) (load_row (P := Pg) (h := h_26) (t := 41) (by kernel_rfl) (by kernel_rfl) e28) res_nil) (by kernel_rfl)
    ·obtain ⟨zq, zr⟩ := pan_inj q29; subst zq; subst zr
     exact WL.callPanic (hc.ok w0) (d := (some 13)) (by kernel_rfl) (by kernel_rfl) (by kernel_rfl) e23 (p21 (p10 (p8 Pan.fin)))
   ·obtain ⟨zq, zr⟩ := pan_inj q30; subst zq; subst zr
    exact WL.callPanic (hc.ok w0) (d := (some 11)) (by kernel_rfl) (by kernel_rfl) (by kernel_rfl) e15 (p13 (p10 (p8 Pan.fin)))
  | false =>
   replace z := ifB_f z
   refine W.f ?_
   refine W.s (fun _ n31 _ _ _ => ?_)
   refine W.r ?_
   replace z := lS z; obtain ⟨t16, e32, z⟩ := z
   refine WL.val (d := (some 16)) (v := .bool t16) (h' := h_5) (by kernel_rfl) (by kernel_rfl) (val_of AV.bool e32 (by kernel_rfl)) ?_
   refine WL.a (some 15) (.bool t16) h_5 ?_
   refine WL.n ?_
   refine Go.weaken (l' := [(0, t0), (2, newP h), (3, .int .u8 t6), (7, .int .u8 t6), (15, .bool t16)]) (Fr.c (Fr.c (Fr.c (Fr.c (Fr.c Fr.n))))) ?_
   refine n31 ?_
   cases t16 with
   | true =>
    replace z := ifB_t z
    refine W.t ?_
    refine W.s (fun _ n33 _ _ _ => ?_)
    refine W.r ?_
    replace z := callN_some z; obtain ⟨r17, h_34, e35, z⟩ := z
    replace z := oS z; obtain ⟨t17, c36, z⟩ := z
    have c36 := avAgg_some c36
    subst c36
    refine WL.c (hc.ok w0) (some 17) e35 ?_
    replace z := oS z; obtain ⟨h_37, e38, z⟩ := z
    refine WL.e h_37 (store_row (P := Pg) (h := h_34) (t := 41) (v := (.agg t17)) (by kernel_rfl) (by kernel_rfl) e38) ?_
    refine WL.n ?_
    refine Go.weaken (l' := [(2, newP h)]) (Fr.c Fr.n) ?_
    refine n33 ?_
    refine W.ret (by kernel_rfl) ?_
    refine q10 ?_
    refine q8 ?_
    replace z := oS z; obtain ⟨w2_40, e39, z⟩ := z
    obtain ⟨z, hF2⟩ := ret_inj z; subst z; subst hF2
    exact leave_of (rs := [.cell 2 41]) (vs := [.agg w2_40]) (by kernel_rfl) (res_cell (by kernel_rfl) (load_row (P := Pg) (h := h_37) (t := 41) (by kernel_rfl) (by kernel_rfl) e39) res_nil) (by kernel_rfl)
   | false =>
    replace z := ifB_f z
    refine W.f ?_
    refine W.s (fun _ n41 _ _ _ => ?_)
    refine W.r ?_
    replace z := lS z; obtain ⟨t19, e42, z⟩ := z
    refine WL.val (d := (some 19)) (v := .bool t19) (h' := h_5) (by kernel_rfl) (by kernel_rfl) (val_of AV.bool e42 (by kernel_rfl)) ?_
    refine WL.a (some 18) (.bool t19) h_5 ?_
    refine WL.n ?_
    refine Go.weaken (l' := [(0, t0), (2, newP h), (3, .int .u8 t6), (7, .int .u8 t6), (18, .bool t19)]) (Fr.c (Fr.c (Fr.c (Fr.c (Fr.c Fr.n))))) ?_
    refine n41 ?_
    cases t19 with
    | true =>
     replace z := ifB_t z
     refine W.t ?_
     refine W.s (fun _ n43 _ _ p43 => ?_)
     refine W.r ?_
     refine WL.a (some 20) t0 h_5 ?_
     replace z := callK_some z; rcases z with ⟨r21, h_44, e45, z⟩ | ⟨r21, h_44, e45, q52⟩
     ·replace z := oS z; obtain ⟨t21, c46, z⟩ := z
      have c46 := avAgg_some c46
      subst c46
      refine WL.c (hc.ok w0) (some 21) e45 ?_
      replace z := oS z; obtain ⟨t22, e47, z⟩ := z
      refine WL.val (d := (some 22)) (v := .agg t22) (h' := h_44) (by kernel_rfl) (by kernel_rfl) (bld_ok (by kernel_rfl) e47) ?_
      replace z := oS z; obtain ⟨h_48, e49, z⟩ := z
      refine WL.e h_48 (store_row (P := Pg) (h := h_44) (t := 41) (v := (.agg t22)) (by kernel_rfl) (by kernel_rfl) e49) ?_
      refine WL.n ?_
      refine Go.weaken (l' := [(2, newP h)]) (Fr.c Fr.n) ?_
      refine n43 ?_
      refine W.ret (by kernel_rfl) ?_
      refine q10 ?_
      refine q8 ?_
      replace z := oS z; obtain ⟨w2_51, e50, z⟩ := z
      obtain ⟨z, hF2⟩ := ret_inj z; subst z; subst hF2
      exact leave_of (rs := [.cell 2 41]) (vs := [.agg w2_51]) (by kernel_rfl) (res_cell (by kernel_rfl) (load_row (P := Pg) (h := h_48) (t := 41) (by kernel_rfl) (by kernel_rfl) e50) res_nil) (by kernel_rfl)
     ·obtain ⟨zq, zr⟩ := pan_inj q52; subst zq; subst zr
      exact WL.callPanic (hc.ok w0) (d := (some 21)) (by kernel_rfl) (by kernel_rfl) (by kernel_rfl) e45 (p43 (p10 (p8 Pan.fin)))
    | false =>
     replace z := ifB_f z
     refine W.f ?_
     refine W.s (fun _ n53 _ _ _ => ?_)
     refine W.r ?_
     replace z := lS z; obtain ⟨t24, e54, z⟩ := z
     refine WL.val (d := (some 24)) (v := .bool t24) (h' := h_5) (by kernel_rfl) (by kernel_rfl) (val_of AV.bool e54 (by kernel_rfl)) ?_
     refine WL.a (some 23) (.bool t24) h_5 ?_
     refine WL.n ?_
     refine Go.weaken (l' := [(0, t0), (2, newP h), (3, .int .u8 t6), (7, .int .u8 t6), (23, .bool t24)]) (Fr.c (Fr.c (Fr.c (Fr.c (Fr.c Fr.n))))) ?_
     refine n53 ?_
     cases t24 with
     | true =>
      replace z := ifB_t z
      refine W.t ?_
      refine W.s (fun _ n55 _ _ p55 => ?_)
      refine W.r ?_
      refine WL.a (some 25) t0 h_5 ?_
      replace z := callK_some z; rcases z with ⟨r26, h_56, e57, z⟩ | ⟨r26, h_56, e57, q66⟩
      ·replace z := oS z; obtain ⟨t26, c58, z⟩ := z
       have c58 := avInt_some c58
       subst c58
       refine WL.c (hc.ok w0) (some 26) e57 ?_
       replace z := callN_some z; obtain ⟨r27, h_59, e60, z⟩ := z
       replace z := oS z; obtain ⟨t27, c61, z⟩ := z
       have c61 := avAgg_some c61
       subst c61
       refine WL.c (hc.ok w0) (some 27) e60 ?_
       replace z := oS z; obtain ⟨h_62, e63, z⟩ := z
       refine WL.e h_62 (store_row (P := Pg) (h := h_59) (t := 41) (v := (.agg t27)) (by kernel_rfl) (by kernel_rfl) e63) ?_
       refine WL.n ?_
       refine Go.weaken (l' := [(2, newP h)]) (Fr.c Fr.n) ?_
       refine n55 ?_
       refine W.ret (by kernel_rfl) ?_
       refine q10 ?_
       refine q8 ?_
       replace z := oS z; obtain ⟨w2_65, e64, z⟩ := z
       obtain ⟨z, hF2⟩ := ret_inj z; subst z; subst hF2
       exact leave_of (rs := [.cell 2 41]) (vs := [.agg w2_65]) (by kernel_rfl) (res_cell (by kernel_rfl) (load_row (P := Pg) (h := h_62) (t := 41) (by kernel_rfl) (by kernel_rfl) e64) res_nil) (by kernel_rfl)
      ·obtain ⟨zq, zr⟩ := pan_inj q66; subst zq; subst zr
       exact WL.callPanic (hc.ok w0) (d := (some 26)) (by kernel_rfl) (by kernel_rfl) (by kernel_rfl) e57 (p55 (p10 (p8 Pan.fin)))
     | false =>
      replace z := ifB_f z
      refine W.f ?_
      refine W.s (fun K67 n67 _ _ _ => ?_)
      refine W.s (fun _ n68 _ _ _ => ?_)
      refine W.r ?_
      replace z := lS z; obtain ⟨t29, e69, z⟩ := z
      refine WL.val (d := (some 29)) (v := .bool t29) (h' := h_5) (by kernel_rfl) (by kernel_rfl) (val_of AV.bool e69 (by kernel_rfl)) ?_
      refine WL.a (some 28) (.bool t29) h_5 ?_
      refine WL.n ?_
      refine Go.weaken (l' := [(0, t0), (2, newP h), (3, .int .u8 t6), (7, .int .u8 t6), (28, .bool t29)]) (Fr.c (Fr.c (Fr.c (Fr.c (Fr.c Fr.n))))) ?_
      refine n68 ?_
      replace z := lS z; obtain ⟨k70, e70, z⟩ := z
      have J70 : ∀ (t28 : Bool) (h_71 : AHeap), k70 t28 h_71 = some (rR, hR) → Go w0 m0 (Func.ntmps Try.f88) (K67 .normal) [(0, t0), (2, newP h), (3, .int .u8 t6), (28, .bool t28)] [] h_71 := by
       intro t28 h_71 z
       rw [e70] at z
       refine n67 ?_
       replace z := lS z; obtain ⟨k72, e72, z⟩ := z
       have J72 : ∀  (h_73 : AHeap), k72 h_73 = some (rR, hR) → Go w0 m0 (Func.ntmps Try.f88) (K10 .normal) [(2, newP h), (3, .int .u8 t6)] [] h_73 := by
        intro  h_73 z
        rw [e72] at z
        refine n10 ?_
        refine n8 ?_
        refine W.s (fun _ n74 _ _ _ => ?_)
        refine W.r ?_
        refine WL.a (some 37) (.int .u8 t6) h_73 ?_
        replace z := callN_some z; obtain ⟨r38, h_75, e76, z⟩ := z
        replace z := oS z; obtain ⟨t38, c77, z⟩ := z
        have c77 := avAgg_some c77
        subst c77
        refine WL.c (hc.ok w0) (some 38) e76 ?_
        replace z := oS z; obtain ⟨h_78, e79, z⟩ := z
        refine WL.e h_78 (store_row (P := Pg) (h := h_75) (t := 41) (v := (.agg t38)) (by kernel_rfl) (by kernel_rfl) e79) ?_
        refine WL.n ?_
        refine Go.weaken (l' := [(2, newP h)]) (Fr.c Fr.n) ?_
        refine n74 ?_
        refine W.ret (by kernel_rfl) ?_
        replace z := oS z; obtain ⟨w2_81, e80, z⟩ := z
        obtain ⟨z, hF2⟩ := ret_inj z; subst z; subst hF2
        exact leave_of (rs := [.cell 2 41]) (vs := [.agg w2_81]) (by kernel_rfl) (res_cell (by kernel_rfl) (load_row (P := Pg) (h := h_78) (t := 41) (by kernel_rfl) (by kernel_rfl) e80) res_nil) (by kernel_rfl)
       cases t28 with
       | true =>
        replace z := ifB_t z
        refine W.t ?_
        refine W.r ?_
        refine WL.a (some 35) t0 h_71 ?_
        replace z := callK_some z; rcases z with ⟨r36, h_82, e83, z⟩ | ⟨r36, h_82, e83, q84⟩
        ·refine WL.c (hc.ok w0) (some 36) e83 ?_
         refine WL.n ?_
         refine Go.weaken (l' := [(2, newP h), (3, .int .u8 t6)]) (Fr.c (Fr.c Fr.n)) ?_
         exact Go.weaken (Fr.c (Fr.c Fr.n)) (J72 _ z)
        ·obtain ⟨zq, zr⟩ := pan_inj q84; subst zq; subst zr
         exact WL.callPanic (hc.ok w0) (d := (some 36)) (by kernel_rfl) (by kernel_rfl) (by kernel_rfl) e83 (p10 (p8 Pan.fin))
       | false =>
        replace z := ifB_f z
        refine W.f ?_
        refine W.skip (by kernel_rfl) ?_
        exact Go.weaken (Fr.c (Fr.c Fr.n)) (J72 _ z)
      cases t29 with
      | true =>
       replace z := ifB_t z
       refine W.t ?_
       refine W.skip (by kernel_rfl) ?_
       exact Go.weaken (Fr.c (Fr.c (Fr.c (Fr.c Fr.n)))) (J70 _ _ z)
      | false =>
       replace z := ifB_f z
       refine W.f ?_
       refine W.s (fun _ n85 _ _ _ => ?_)
       refine W.r ?_
       replace z := lS z; obtain ⟨t30, e86, z⟩ := z
       refine WL.val (d := (some 30)) (v := .bool t30) (h' := h_5) (by kernel_rfl) (by kernel_rfl) (val_of AV.bool e86 (by kernel_rfl)) ?_
       refine WL.a (some 28) (.bool t30) h_5 ?_
       refine WL.n ?_
       refine Go.weaken (l' := [(0, t0), (2, newP h), (3, .int .u8 t6), (7, .int .u8 t6), (28, .bool t30)]) (Fr.c (Fr.c (Fr.c (Fr.c (Fr.c Fr.n))))) ?_
       refine n85 ?_
       replace z := lS z; obtain ⟨k87, e87, z⟩ := z
       have J87 : ∀ (t28_88 : Bool) (h_89 : AHeap), k87 t28_88 h_89 = some (rR, hR) → Go w0 m0 (Func.ntmps Try.f88) (K67 .normal) [(0, t0), (2, newP h), (3, .int .u8 t6), (28, .bool t28_88)] [] h_89 := by
        intro t28_88 h_89 z
        rw [e87] at z
        exact Go.weaken (Fr.c (Fr.c (Fr.c (Fr.c Fr.n)))) (J70 _ _ z)
       cases t30 with
       | true =>
        replace z := ifB_t z
        refine W.t ?_
        refine W.skip (by kernel_rfl) ?_
        exact Go.weaken (Fr.c (Fr.c (Fr.c (Fr.c Fr.n)))) (J87 _ _ z)
       | false =>
        replace z := ifB_f z
        refine W.f ?_
        refine W.s (fun _ n90 _ _ _ => ?_)
        refine W.r ?_
        replace z := lS z; obtain ⟨t31, e91, z⟩ := z
        refine WL.val (d := (some 31)) (v := .bool t31) (h' := h_5) (by kernel_rfl) (by kernel_rfl) (val_of AV.bool e91 (by kernel_rfl)) ?_
        refine WL.a (some 28) (.bool t31) h_5 ?_
        refine WL.n ?_
        refine Go.weaken (l' := [(0, t0), (2, newP h), (3, .int .u8 t6), (7, .int .u8 t6), (28, .bool t31)]) (Fr.c (Fr.c (Fr.c (Fr.c (Fr.c Fr.n))))) ?_
        refine n90 ?_
        replace z := lS z; obtain ⟨k92, e92, z⟩ := z
        have J92 : ∀ (t28_93 : Bool) (h_94 : AHeap), k92 t28_93 h_94 = some (rR, hR) → Go w0 m0 (Func.ntmps Try.f88) (K67 .normal) [(0, t0), (2, newP h), (3, .int .u8 t6), (28, .bool t28_93)] [] h_94 := by
         intro t28_93 h_94 z
         rw [e92] at z
         exact Go.weaken (Fr.c (Fr.c (Fr.c (Fr.c Fr.n)))) (J87 _ _ z)
        cases t31 with
        | true =>
         replace z := ifB_t z
         refine W.t ?_
         refine W.skip (by kernel_rfl) ?_
         exact Go.weaken (Fr.c (Fr.c (Fr.c (Fr.c Fr.n)))) (J92 _ _ z)
        | false =>
         replace z := ifB_f z
         refine W.f ?_
         refine W.s (fun _ n95 _ _ _ => ?_)
         refine W.r ?_
         replace z := lS z; obtain ⟨t32, e96, z⟩ := z
         refine WL.val (d := (some 32)) (v := .bool t32) (h' := h_5) (by kernel_rfl) (by kernel_rfl) (val_of AV.bool e96 (by kernel_rfl)) ?_
         refine WL.a (some 28) (.bool t32) h_5 ?_
         refine WL.n ?_
         refine Go.weaken (l' := [(0, t0), (2, newP h), (3, .int .u8 t6), (7, .int .u8 t6), (28, .bool t32)]) (Fr.c (Fr.c (Fr.c (Fr.c (Fr.c Fr.n))))) ?_
         refine n95 ?_
         replace z := lS z; obtain ⟨k97, e97, z⟩ := z
         have J97 : ∀ (t28_98 : Bool) (h_99 : AHeap), k97 t28_98 h_99 = some (rR, hR) → Go w0 m0 (Func.ntmps Try.f88) (K67 .normal) [(0, t0), (2, newP h), (3, .int .u8 t6), (28, .bool t28_98)] [] h_99 := by
          intro t28_98 h_99 z
          rw [e97] at z
          exact Go.weaken (Fr.c (Fr.c (Fr.c (Fr.c Fr.n)))) (J92 _ _ z)
         cases t32 with
         | true =>
          replace z := ifB_t z
          refine W.t ?_
          refine W.skip (by kernel_rfl) ?_
          exact Go.weaken (Fr.c (Fr.c (Fr.c (Fr.c Fr.n)))) (J97 _ _ z)
         | false =>
          replace z := ifB_f z
          refine W.f ?_
          refine W.s (fun _ n100 _ _ _ => ?_)
          refine W.r ?_
          replace z := lS z; obtain ⟨t33, e101, z⟩ := z
          refine WL.val (d := (some 33)) (v := .bool t33) (h' := h_5) (by kernel_rfl) (by kernel_rfl) (val_of AV.bool e101 (by kernel_rfl)) ?_
          refine WL.a (some 28) (.bool t33) h_5 ?_
          refine WL.n ?_
          refine Go.weaken (l' := [(0, t0), (2, newP h), (3, .int .u8 t6), (7, .int .u8 t6), (28, .bool t33)]) (Fr.c (Fr.c (Fr.c (Fr.c (Fr.c Fr.n))))) ?_
          refine n100 ?_
          replace z := lS z; obtain ⟨k102, e102, z⟩ := z
          have J102 : ∀ (t28_103 : Bool) (h_104 : AHeap), k102 t28_103 h_104 = some (rR, hR) → Go w0 m0 (Func.ntmps Try.f88) (K67 .normal) [(0, t0), (2, newP h), (3, .int .u8 t6), (28, .bool t28_103)] [] h_104 := by
           intro t28_103 h_104 z
           rw [e102] at z
           exact Go.weaken (Fr.c (Fr.c (Fr.c (Fr.c Fr.n)))) (J97 _ _ z)
          cases t33 with
          | true =>
           replace z := ifB_t z
           refine W.t ?_
           refine W.skip (by kernel_rfl) ?_
           exact Go.weaken (Fr.c (Fr.c (Fr.c (Fr.c Fr.n)))) (J102 _ _ z)
          | false =>
           replace z := ifB_f z
           refine W.f ?_
           refine W.r ?_
           replace z := lS z; obtain ⟨t34, e105, z⟩ := z
           refine WL.val (d := (some 34)) (v := .bool t34) (h' := h_5) (by kernel_rfl) (by kernel_rfl) (val_of AV.bool e105 (by kernel_rfl)) ?_
           refine WL.a (some 28) (.bool t34) h_5 ?_
           refine WL.n ?_
           refine Go.weaken (l' := [(0, t0), (2, newP h), (3, .int .u8 t6), (28, .bool t34)]) (Fr.c (Fr.c (Fr.c (Fr.c Fr.n)))) ?_
           exact Go.weaken (Fr.c (Fr.c (Fr.c (Fr.c Fr.n)))) (J102 _ _ z)
 ·obtain ⟨zq, zr⟩ := pan_inj q106; subst zq; subst zr
  exact WL.callPanic (hc.ok w0) (d := (some 6)) (by kernel_rfl) (by kernel_rfl) (by kernel_rfl) e6 (p4 Pan.fin)
noncomputable def pattern_reader_atom_fn (call : CallF) (n : Nat) : FnT := fun args h => match args with
 | [x0] => pattern_reader_atom call n x0 h
 | _ => none
set_option maxRecDepth 100000 in
theorem pattern_reader_atom_fn_eq (call : CallF) (n : Nat) (t0 : AV) (h : AHeap) : pattern_reader_atom_fn call n [t0] h = pattern_reader_atom call n t0 h :=
 rfl
theorem pattern_reader_atom_holds {call : CallF} (hc : SaysAll Pg call) (n : Nat) : Holds Pg 88 (pattern_reader_atom_fn call n) := by
 intro args h r h2 e
 unfold pattern_reader_atom_fn at e
 split at e
 ·exact pattern_reader_atom_ok hc e
 ·cases e
noncomputable def pattern_reader_members_L1b (call : CallF) (t0 : AV) (h_5 : AHeap) (k16 : AHeap → R) (self : AHeap → R) (h_48 : AHeap) : R :=
 callN (call 55 [t0, .int .u8 93] h_48) fun r11 h_51 =>
 obind (avBool r11) fun t11 =>
 lett (!t11) fun (t12 : Bool) =>
 ifB t12
 (
  callK (call 93 [t0, (newP h_5)] h_51) fun _ h_56 =>
  self h_56)
 (
  k16 h_51)
noncomputable def pattern_reader_members_L1 (call : CallF) (t0 : AV) (h_5 : AHeap) (k16 : AHeap → R) : Nat → AHeap → R := iterR (fun _ => none) (pattern_reader_members_L1b call t0 h_5 k16)
theorem pattern_reader_members_L1_s (call : CallF) (t0 : AV) (h_5 : AHeap) (k16 : AHeap → R) (m : Nat) : pattern_reader_members_L1 call t0 h_5 k16 (m + 1) = pattern_reader_members_L1b call t0 h_5 k16 (pattern_reader_members_L1 call t0 h_5 k16 m) := rfl
noncomputable def pattern_reader_members_L0b (h_5 : AHeap) (k29 : AHeap → R) (self : Int → AHeap → R) (t16 : Int) (h_32 : AHeap) : R :=
 lett (decide (t16 < 4)) fun (t17 : Bool) =>
 ifB t17
 (
  obind (idxA 4 1 (newP h_5) t16) fun t20 =>
  obind (ldCell h_32 t20) fun v21 =>
  obind (avInt .u64 v21) fun t21 =>
  lett (xorI .u64 t21 18446744073709551615) fun (t22 : Int) =>
  obind (idxA 4 1 (newP h_5) t16) fun t23 =>
  obind (stRow h_32 1 [.int .u64 t22] t23) fun h_44 =>
  lett (IntKind.i64.wrap (t16 + 1)) fun (t24 : Int) =>
  self t24 h_44)
 (
  k29 h_32)
noncomputable def pattern_reader_members_L0 (h_5 : AHeap) (k29 : AHeap → R) : Nat → Int → AHeap → R := iterR (fun _ _ => none) (pattern_reader_members_L0b h_5 k29)
theorem pattern_reader_members_L0_s (h_5 : AHeap) (k29 : AHeap → R) (m : Nat) : pattern_reader_members_L0 h_5 k29 (m + 1) = pattern_reader_members_L0b h_5 k29 (pattern_reader_members_L0 h_5 k29 m) := rfl
noncomputable def pattern_reader_members (call : CallF) (n : Nat) (t0 : AV) (h : AHeap) : R :=
 lett (newH h 38 [.int .u64 0, .int .u64 0, .int .u64 0, .int .u64 0]) fun h_2 =>
 callN (call 55 [t0, .int .u8 94] h_2) fun r7 h_5 =>
 obind (avBool r7) fun t7 =>
 lett (newH h_5 38 [.int .u64 0, .int .u64 0, .int .u64 0, .int .u64 0]) fun h_9 =>
 callK (call 93 [t0, (newP h_5)] h_9) fun _ h_12 =>
 lett (fun  (h_17 : AHeap) =>
  lett (fun  (h_21 : AHeap) =>
   obind (ldRow h_21 4 (newP h_5)) fun t25 =>
   obind (stRow h_21 4 t25 (newP h)) fun h_24 =>
   obind (ldRow h_24 4 (newP h)) fun w2 =>
   some (.ret (.agg w2), h_24)) fun k20 =>
  ifB t7
  (
   lett (fun  (h_30 : AHeap) =>
    k20 h_30) fun k29 =>
   pattern_reader_members_L0 h_5 k29 n 0 h_17)
  (
   k20 h_17)) fun k16 =>
 pattern_reader_members_L1 call t0 h_5 k16 n  h_12
theorem pattern_reader_members_ok {call : CallF} (hc : SaysAll Pg call) {n : Nat} {t0 : AV} {h : AHeap} {rR : ARes} {hR : AHeap} (z : pattern_reader_members call n t0 h = some (rR, hR)) : Says Pg 91 [t0] h rR hR := by
 unfold pattern_reader_members at z
 refine says_of (fn := Try.f91) Try.func91 (c := codeOf Try.f91) (by kernel_rfl) (by kernel_rfl) (fun w0 m0 => ?_)
 refine W.weaken (l' := [(0, t0)]) (Fr.c Fr.n) ?_
 refine W.s (fun _ n1 _ _ _ => ?_)
 refine W.r ?_
 replace z := lS z; obtain ⟨h_2, e3, z⟩ := z
 refine WL.val (d := (some 2)) (v := (newP h)) (h' := h_2) (by kernel_rfl) (by kernel_rfl) (val_ofH e3 (by kernel_rfl)) ?_
 refine WL.n ?_
 refine Go.weaken (l' := [(0, t0), (2, newP h)]) (Fr.c (Fr.c Fr.n)) ?_
 refine n1 ?_
 refine W.s (fun _ n4 _ _ _ => ?_)
 refine W.r ?_
 refine WL.a (some 6) t0 h_2 ?_
 replace z := callN_some z; obtain ⟨r7, h_5, e6, z⟩ := z
 replace z := oS z; obtain ⟨t7, c7, z⟩ := z
 have c7 := avBool_some c7
 subst c7
 refine WL.c (hc.ok w0) (some 7) e6 ?_
 refine WL.a (some 3) (.bool t7) h_5 ?_
 refine WL.n ?_
 refine Go.weaken (l' := [(0, t0), (2, newP h), (3, .bool t7)]) (Fr.c (Fr.c (Fr.c Fr.n))) ?_
 refine n4 ?_
 refine W.s (fun _ n8 _ _ _ => ?_)
 refine W.r ?_
 replace z := lS z; obtain ⟨h_9, e10, z⟩ := z
 refine WL.val (d := (some 4)) (v := (newP h_5)) (h' := h_9) (by kernel_rfl) (by kernel_rfl) (val_ofH e10 (by kernel_rfl)) ?_
 refine WL.n ?_
 refine Go.weaken (l' := [(0, t0), (2, newP h), (3, .bool t7), (4, newP h_5)]) (Fr.c (Fr.c (Fr.c (Fr.c Fr.n)))) ?_
 refine n8 ?_
 refine W.s (fun _ n11 _ _ p11 => ?_)
 refine W.r ?_
 refine WL.a (some 8) t0 h_9 ?_
 replace z := callK_some z; rcases z with ⟨r9, h_12, e13, z⟩ | ⟨r9, h_12, e13, q59⟩
 ·refine WL.c (hc.ok w0) (some 9) e13 ?_
  refine WL.n ?_
  refine Go.weaken (l' := [(0, t0), (2, newP h), (3, .bool t7), (4, newP h_5)]) (Fr.c (Fr.c (Fr.c (Fr.c Fr.n)))) ?_
  refine n11 ?_
  refine W.s (fun K14 n14 _ _ p14 => ?_)
  replace z := lS z; obtain ⟨k16, e16, z⟩ := z
  have J16 : ∀  (h_17 : AHeap), k16 h_17 = some (rR, hR) → Go w0 m0 (Func.ntmps Try.f91) (K14 .normal) [(2, newP h), (3, .bool t7), (4, newP h_5)] [] h_17 := by
   intro  h_17 z
   rw [e16] at z
   refine n14 ?_
   refine W.s (fun K18 n18 _ _ _ => ?_)
   refine W.s (fun _ n19 _ _ _ => ?_)
   refine W.r ?_
   refine WL.a (some 15) (.bool t7) h_17 ?_
   refine WL.n ?_
   refine Go.weaken (l' := [(2, newP h), (4, newP h_5), (15, .bool t7)]) (Fr.c (Fr.c (Fr.c Fr.n))) ?_
   refine n19 ?_
   replace z := lS z; obtain ⟨k20, e20, z⟩ := z
   have J20 : ∀  (h_21 : AHeap), k20 h_21 = some (rR, hR) → Go w0 m0 (Func.ntmps Try.f91) (K18 .normal) [(2, newP h), (4, newP h_5)] [] h_21 := by
    intro  h_21 z
    rw [e20] at z
    refine n18 ?_
    refine W.s (fun _ n22 _ _ _ => ?_)
    refine W.r ?_
    replace z := oS z; obtain ⟨t25, e23, z⟩ := z
    refine WL.b (some 25) (.agg t25) h_21 (load_row (P := Pg) (h := h_21) (t := 38) (by kernel_rfl) (by kernel_rfl) e23) ?_
    replace z := oS z; obtain ⟨h_24, e25, z⟩ := z
    refine WL.e h_24 (store_row (P := Pg) (h := h_21) (t := 38) (v := (.agg t25)) (by kernel_rfl) (by kernel_rfl) e25) ?_
    refine WL.n ?_
    refine Go.weaken (l' := [(2, newP h)]) (Fr.c Fr.n) ?_
    refine n22 ?_
    refine W.ret (by kernel_rfl) ?_
    replace z := oS z; obtain ⟨w2, e26, z⟩ := z
    obtain ⟨z, hF2⟩ := ret_inj z; subst z; subst hF2
    exact leave_of (rs := [.cell 2 38]) (vs := [.agg w2]) (by kernel_rfl) (res_cell (by kernel_rfl) (load_row (P := Pg) (h := h_24) (t := 38) (by kernel_rfl) (by kernel_rfl) e26) res_nil) (by kernel_rfl)
   cases t7 with
   | true =>
    replace z := ifB_t z
    refine W.t ?_
    refine W.s (fun _ n27 _ _ _ => ?_)
    refine W.r ?_
    refine WL.a (some 16) (.int .i64 0) h_17 ?_
    refine WL.n ?_
    refine Go.weaken (l' := [(2, newP h), (4, newP h_5), (16, .int .i64 0)]) (Fr.c (Fr.c (Fr.c Fr.n))) ?_
    refine n27 ?_
    replace z := lS z; obtain ⟨k29, e29, z⟩ := z
    have J29 : ∀  (h_30 : AHeap), k29 h_30 = some (rR, hR) → Go w0 m0 (Func.ntmps Try.f91) (K18 .normal) [(2, newP h), (4, newP h_5)] [] h_30 := by
     intro  h_30 z
     rw [e29] at z
     exact Go.weaken (Fr.c (Fr.c Fr.n)) (J20 _ z)
    refine W.blockK (by kernel_rfl) (fun K28 n28 s28 o28 q28 p28 => ?_)
    refine W.loopK (by kernel_rfl) (fun I31 K31 b31 n31 e31 q31 p31 => ?_)
    have L31 : ∀ (m : Nat) (t16 : Int) (h_32 : AHeap), pattern_reader_members_L0 h_5 k29 m t16 h_32 = some (rR, hR) → Go w0 m0 (Func.ntmps Try.f91) I31 [(2, newP h), (4, newP h_5), (16, .int .i64 t16)] [] h_32 := by
     intro m
     induction m with
     | zero => intro t16 h_32 z; cases z
     | succ m ih31 =>
      intro t16 h_32 z
      rw [pattern_reader_members_L0_s] at z; unfold pattern_reader_members_L0b at z
      refine b31 ?_
      refine W.s (fun _ n33 _ _ _ => ?_)
      refine W.r ?_
      replace z := lS z; obtain ⟨t17, e34, z⟩ := z
      refine WL.val (d := (some 17)) (v := .bool t17) (h' := h_32) (by kernel_rfl) (by kernel_rfl) (val_of AV.bool e34 (by kernel_rfl)) ?_
      refine WL.n ?_
      refine Go.weaken (l' := [(2, newP h), (4, newP h_5), (16, .int .i64 t16), (17, .bool t17)]) (Fr.c (Fr.c (Fr.c (Fr.c Fr.n)))) ?_
      refine n33 ?_
      refine W.s (fun _ n35 e35 _ _ => ?_)
      cases t17 with
      | true =>
       replace z := ifB_t z
       refine W.t ?_
       refine W.skip (by kernel_rfl) ?_
       refine n35 ?_
       refine W.s (fun _ n36 _ _ _ => ?_)
       refine W.blockK (by kernel_rfl) (fun K37 n37 s37 o37 q37 p37 => ?_)
       refine W.s (fun _ n38 _ _ _ => ?_)
       refine W.r ?_
       refine WL.a (some 18) (.int .i64 t16) h_32 ?_
       refine WL.a (some 5) (.int .i64 t16) h_32 ?_
       refine WL.n ?_
       refine Go.weaken (l' := [(2, newP h), (4, newP h_5), (5, .int .i64 t16), (16, .int .i64 t16)]) (Fr.c (Fr.c (Fr.c (Fr.c Fr.n)))) ?_
       refine n38 ?_
       refine W.r ?_
       refine WL.a (some 19) (.int .i64 t16) h_32 ?_
       replace z := oS z; obtain ⟨t20, e39, z⟩ := z
       refine WL.b (some 20) t20 h_32 (index_arr (P := Pg) (h := h_32) (t := 38) (e' := 36) (k := .i64) (by kernel_rfl) (by kernel_rfl) (by kernel_rfl) e39) ?_
       replace z := oS z; obtain ⟨v21, e40, z⟩ := z
       replace z := oS z; obtain ⟨t21, c41, z⟩ := z
       have c41 := avInt_some c41
       subst c41
       refine WL.b (some 21) (.int .u64 t21) h_32 (load_cell (P := Pg) (h := h_32) (t := 36) (by kernel_rfl) e40) ?_
       replace z := lS z; obtain ⟨t22, e42, z⟩ := z
       refine WL.val (d := (some 22)) (v := .int .u64 t22) (h' := h_32) (by kernel_rfl) (by kernel_rfl) (val_of (AV.int .u64) e42 (by kernel_rfl)) ?_
       replace z := oS z; obtain ⟨t23, e43, z⟩ := z
       refine WL.b (some 23) t23 h_32 (index_arr (P := Pg) (h := h_32) (t := 38) (e' := 36) (k := .i64) (by kernel_rfl) (by kernel_rfl) (by kernel_rfl) e43) ?_
       replace z := oS z; obtain ⟨h_44, e45, z⟩ := z
       refine WL.e h_44 (store_row (P := Pg) (h := h_32) (t := 36) (v := (.int .u64 t22)) (by kernel_rfl) (by kernel_rfl) e45) ?_
       refine WL.n ?_
       refine Go.weaken (l' := [(2, newP h), (4, newP h_5), (16, .int .i64 t16)]) (Fr.c (Fr.c (Fr.c Fr.n))) ?_
       refine n37 ?_
       refine n36 ?_
       refine W.r ?_
       replace z := lS z; obtain ⟨t24, e46, z⟩ := z
       refine WL.val (d := (some 24)) (v := .int .i64 t24) (h' := h_44) (by kernel_rfl) (by kernel_rfl) (val_of (AV.int .i64) e46 (by kernel_rfl)) ?_
       refine WL.a (some 16) (.int .i64 t24) h_44 ?_
       refine WL.n ?_
       refine Go.weaken (l' := [(2, newP h), (4, newP h_5), (16, .int .i64 t24)]) (Fr.c (Fr.c (Fr.c Fr.n))) ?_
       refine n31 ?_
       exact Go.weaken (Fr.c (Fr.c (Fr.c Fr.n))) (ih31 _ _ z)
      | false =>
       replace z := ifB_f z
       refine W.f ?_
       refine W.exit (by kernel_rfl) ?_
       refine e35 ?_
       refine e31 ?_
       refine s28 (by kernel_rfl) ?_
       exact Go.weaken (Fr.c (Fr.c Fr.n)) (J29 _ z)
    exact Go.weaken (Fr.c (Fr.c (Fr.c Fr.n))) (L31 _ _ _ z)
   | false =>
    replace z := ifB_f z
    refine W.f ?_
    refine W.skip (by kernel_rfl) ?_
    exact Go.weaken (Fr.c (Fr.c Fr.n)) (J20 _ z)
  refine W.blockK (by kernel_rfl) (fun K15 n15 s15 o15 q15 p15 => ?_)
  refine W.loopK (by kernel_rfl) (fun I47 K47 b47 n47 e47 q47 p47 => ?_)
  have L47 : ∀ (m : Nat)  (h_48 : AHeap), pattern_reader_members_L1 call t0 h_5 k16 m  h_48 = some (rR, hR) → Go w0 m0 (Func.ntmps Try.f91) I47 [(0, t0), (2, newP h), (3, .bool t7), (4, newP h_5)] [] h_48 := by
   intro m
   induction m with
   | zero => intro  h_48 z; cases z
   | succ m ih47 =>
    intro  h_48 z
    rw [pattern_reader_members_L1_s] at z; unfold pattern_reader_members_L1b at z
    refine b47 ?_
    refine W.s (fun _ n49 e49 _ _ => ?_)
    refine W.s (fun _ n50 _ _ _ => ?_)
    refine W.r ?_
    refine WL.a (some 10) t0 h_48 ?_
    replace z := callN_some z; obtain ⟨r11, h_51, e52, z⟩ := z
    replace z := oS z; obtain ⟨t11, c53, z⟩ := z
    have c53 := avBool_some c53
    subst c53
    refine WL.c (hc.ok w0) (some 11) e52 ?_
    replace z := lS z; obtain ⟨t12, e54, z⟩ := z
    refine WL.val (d := (some 12)) (v := .bool t12) (h' := h_51) (by kernel_rfl) (by kernel_rfl) (val_of AV.bool e54 (by kernel_rfl)) ?_
    refine WL.n ?_
    refine Go.weaken (l' := [(0, t0), (2, newP h), (3, .bool t7), (4, newP h_5), (12, .bool t12)]) (Fr.c (Fr.c (Fr.c (Fr.c (Fr.c Fr.n))))) ?_
    refine n50 ?_
    cases t12 with
    | true =>
     replace z := ifB_t z
     refine W.t ?_
     refine W.skip (by kernel_rfl) ?_
     refine n49 ?_
     refine W.blockK (by kernel_rfl) (fun K55 n55 s55 o55 q55 p55 => ?_)
     refine W.r ?_
     refine WL.a (some 13) t0 h_51 ?_
     replace z := callK_some z; rcases z with ⟨r14, h_56, e57, z⟩ | ⟨r14, h_56, e57, q58⟩
     ·refine WL.c (hc.ok w0) (some 14) e57 ?_
      refine WL.n ?_
      refine Go.weaken (l' := [(0, t0), (2, newP h), (3, .bool t7), (4, newP h_5)]) (Fr.c (Fr.c (Fr.c (Fr.c Fr.n)))) ?_
      refine n55 ?_
      refine n47 ?_
      exact Go.weaken (Fr.c (Fr.c (Fr.c (Fr.c Fr.n)))) (ih47 _ z)
     ·obtain ⟨zq, zr⟩ := pan_inj q58; subst zq; subst zr
      exact WL.callPanic (hc.ok w0) (d := (some 14)) (by kernel_rfl) (by kernel_rfl) (by kernel_rfl) e57 (p55 (p47 (p15 (p14 Pan.fin))))
    | false =>
     replace z := ifB_f z
     refine W.f ?_
     refine W.exit (by kernel_rfl) ?_
     refine e49 ?_
     refine e47 ?_
     refine s15 (by kernel_rfl) ?_
     exact Go.weaken (Fr.c (Fr.c (Fr.c Fr.n))) (J16 _ z)
  exact Go.weaken (Fr.c (Fr.c (Fr.c (Fr.c Fr.n)))) (L47 _ _ z)
 ·obtain ⟨zq, zr⟩ := pan_inj q59; subst zq; subst zr
  exact WL.callPanic (hc.ok w0) (d := (some 9)) (by kernel_rfl) (by kernel_rfl) (by kernel_rfl) e13 (p11 Pan.fin)
noncomputable def pattern_reader_members_fn (call : CallF) (n : Nat) : FnT := fun args h => match args with
 | [x0] => pattern_reader_members call n x0 h
 | _ => none
set_option maxRecDepth 100000 in
theorem pattern_reader_members_fn_eq (call : CallF) (n : Nat) (t0 : AV) (h : AHeap) : pattern_reader_members_fn call n [t0] h = pattern_reader_members call n t0 h :=
 rfl
theorem pattern_reader_members_holds {call : CallF} (hc : SaysAll Pg call) (n : Nat) : Holds Pg 91 (pattern_reader_members_fn call n) := by
 intro args h r h2 e
 unfold pattern_reader_members_fn at e
 split at e
 ·exact pattern_reader_members_ok hc e
 ·cases e
noncomputable def pattern_reader_member (call : CallF) (_ : Nat) (t0 : AV) (t1 : AV) (h : AHeap) : R :=
 callK (call 94 [t0] h) fun r7 h_2 =>
 obind (avInt .u8 r7) fun t7 =>
 callN (call 55 [t0, .int .u8 45] h_2) fun r10 h_8 =>
 obind (avBool r10) fun t10 =>
 lett (fun (t5 : Int) (h_12 : AHeap) =>
  callN (call 84 [t1, .int .u8 t7, .int .u8 t5] h_12) fun _ h_13 =>
  some (.ret (.tup []), h_13)) fun k11 =>
 ifB t10
 (
  callK (call 94 [t0] h_8) fun r12 h_16 =>
  obind (avInt .u8 r12) fun t12 =>
  lett (decide (t12 < t7)) fun (t15 : Bool) =>
  lett (fun  (h_22 : AHeap) =>
   k11 t12 h_22) fun k21 =>
  ifB t15
  (
   callK (call 72 [t0] h_16) fun _ h_23 =>
   k21 h_23)
  (
   k21 h_16))
 (
  k11 t7 h_8)
theorem pattern_reader_member_ok {call : CallF} (hc : SaysAll Pg call) {n : Nat} {t0 : AV} {t1 : AV} {h : AHeap} {rR : ARes} {hR : AHeap} (z : pattern_reader_member call n t0 t1 h = some (rR, hR)) : Says Pg 93 [t0, t1] h rR hR := by
 unfold pattern_reader_member at z
 refine says_of (fn := Try.f93) Try.func93 (c := codeOf Try.f93) (by kernel_rfl) (by kernel_rfl) (fun w0 m0 => ?_)
 refine W.weaken (l' := [(0, t0), (1, t1)]) (Fr.c (Fr.c Fr.n)) ?_
 refine W.s (fun _ n1 _ _ p1 => ?_)
 refine W.r ?_
 refine WL.a (some 6) t0 h ?_
 replace z := callK_some z; rcases z with ⟨r7, h_2, e3, z⟩ | ⟨r7, h_2, e3, q27⟩
 ·replace z := oS z; obtain ⟨t7, c4, z⟩ := z
  have c4 := avInt_some c4
  subst c4
  refine WL.c (hc.ok w0) (some 7) e3 ?_
  refine WL.a (some 4) (.int .u8 t7) h_2 ?_
  refine WL.n ?_
  refine Go.weaken (l' := [(0, t0), (1, t1), (4, .int .u8 t7)]) (Fr.c (Fr.c (Fr.c Fr.n))) ?_
  refine n1 ?_
  refine W.s (fun _ n5 _ _ _ => ?_)
  refine W.r ?_
  refine WL.a (some 8) (.int .u8 t7) h_2 ?_
  refine WL.a (some 5) (.int .u8 t7) h_2 ?_
  refine WL.n ?_
  refine Go.weaken (l' := [(0, t0), (1, t1), (4, .int .u8 t7), (5, .int .u8 t7)]) (Fr.c (Fr.c (Fr.c (Fr.c Fr.n)))) ?_
  refine n5 ?_
  refine W.s (fun K6 n6 _ _ p6 => ?_)
  refine W.s (fun _ n7 _ _ _ => ?_)
  refine W.r ?_
  refine WL.a (some 9) t0 h_2 ?_
  replace z := callN_some z; obtain ⟨r10, h_8, e9, z⟩ := z
  replace z := oS z; obtain ⟨t10, c10, z⟩ := z
  have c10 := avBool_some c10
  subst c10
  refine WL.c (hc.ok w0) (some 10) e9 ?_
  refine WL.n ?_
  refine Go.weaken (l' := [(0, t0), (1, t1), (4, .int .u8 t7), (5, .int .u8 t7), (10, .bool t10)]) (Fr.c (Fr.c (Fr.c (Fr.c (Fr.c Fr.n))))) ?_
  refine n7 ?_
  replace z := lS z; obtain ⟨k11, e11, z⟩ := z
  have J11 : ∀ (t5 : Int) (h_12 : AHeap), k11 t5 h_12 = some (rR, hR) → Go w0 m0 (Func.ntmps Try.f93) (K6 .normal) [(1, t1), (4, .int .u8 t7), (5, .int .u8 t5)] [] h_12 := by
   intro t5 h_12 z
   rw [e11] at z
   refine n6 ?_
   refine W.r ?_
   refine WL.a (some 18) t1 h_12 ?_
   refine WL.a (some 19) (.int .u8 t7) h_12 ?_
   refine WL.a (some 20) (.int .u8 t5) h_12 ?_
   replace z := callN_some z; obtain ⟨r21, h_13, e14, z⟩ := z
   refine WL.c (hc.ok w0) (some 21) e14 ?_
   refine WL.n ?_
   refine Go.weaken (l' := []) Fr.n ?_
   obtain ⟨z, hF2⟩ := ret_inj z; subst z; subst hF2
   exact leaveN_of (rs := []) (vs := []) (by kernel_rfl) res_nil (by kernel_rfl)
  cases t10 with
  | true =>
   replace z := ifB_t z
   refine W.t ?_
   refine W.s (fun _ n15 _ _ p15 => ?_)
   refine W.r ?_
   refine WL.a (some 11) t0 h_8 ?_
   replace z := callK_some z; rcases z with ⟨r12, h_16, e17, z⟩ | ⟨r12, h_16, e17, q26⟩
   ·replace z := oS z; obtain ⟨t12, c18, z⟩ := z
    have c18 := avInt_some c18
    subst c18
    refine WL.c (hc.ok w0) (some 12) e17 ?_
    refine WL.a (some 5) (.int .u8 t12) h_16 ?_
    refine WL.n ?_
    refine Go.weaken (l' := [(0, t0), (1, t1), (4, .int .u8 t7), (5, .int .u8 t12)]) (Fr.c (Fr.c (Fr.c (Fr.c Fr.n)))) ?_
    refine n15 ?_
    refine W.s (fun _ n19 _ _ _ => ?_)
    refine W.r ?_
    refine WL.a (some 13) (.int .u8 t12) h_16 ?_
    refine WL.a (some 14) (.int .u8 t7) h_16 ?_
    replace z := lS z; obtain ⟨t15, e20, z⟩ := z
    refine WL.val (d := (some 15)) (v := .bool t15) (h' := h_16) (by kernel_rfl) (by kernel_rfl) (val_of AV.bool e20 (by kernel_rfl)) ?_
    refine WL.n ?_
    refine Go.weaken (l' := [(0, t0), (1, t1), (4, .int .u8 t7), (5, .int .u8 t12), (15, .bool t15)]) (Fr.c (Fr.c (Fr.c (Fr.c (Fr.c Fr.n))))) ?_
    refine n19 ?_
    replace z := lS z; obtain ⟨k21, e21, z⟩ := z
    have J21 : ∀  (h_22 : AHeap), k21 h_22 = some (rR, hR) → Go w0 m0 (Func.ntmps Try.f93) (K6 .normal) [(1, t1), (4, .int .u8 t7), (5, .int .u8 t12)] [] h_22 := by
     intro  h_22 z
     rw [e21] at z
     exact Go.weaken (Fr.c (Fr.c (Fr.c Fr.n))) (J11 _ _ z)
    cases t15 with
    | true =>
     replace z := ifB_t z
     refine W.t ?_
     refine W.r ?_
     refine WL.a (some 16) t0 h_16 ?_
     replace z := callK_some z; rcases z with ⟨r17, h_23, e24, z⟩ | ⟨r17, h_23, e24, q25⟩
     ·refine WL.c (hc.ok w0) (some 17) e24 ?_
      refine WL.n ?_
      refine Go.weaken (l' := [(1, t1), (4, .int .u8 t7), (5, .int .u8 t12)]) (Fr.c (Fr.c (Fr.c Fr.n))) ?_
      exact Go.weaken (Fr.c (Fr.c (Fr.c Fr.n))) (J21 _ z)
     ·obtain ⟨zq, zr⟩ := pan_inj q25; subst zq; subst zr
      exact WL.callPanic (hc.ok w0) (d := (some 17)) (by kernel_rfl) (by kernel_rfl) (by kernel_rfl) e24 (p6 Pan.fin)
    | false =>
     replace z := ifB_f z
     refine W.f ?_
     refine W.skip (by kernel_rfl) ?_
     exact Go.weaken (Fr.c (Fr.c (Fr.c Fr.n))) (J21 _ z)
   ·obtain ⟨zq, zr⟩ := pan_inj q26; subst zq; subst zr
    exact WL.callPanic (hc.ok w0) (d := (some 12)) (by kernel_rfl) (by kernel_rfl) (by kernel_rfl) e17 (p15 (p6 Pan.fin))
  | false =>
   replace z := ifB_f z
   refine W.f ?_
   refine W.skip (by kernel_rfl) ?_
   exact Go.weaken (Fr.c (Fr.c (Fr.c Fr.n))) (J11 _ _ z)
 ·obtain ⟨zq, zr⟩ := pan_inj q27; subst zq; subst zr
  exact WL.callPanic (hc.ok w0) (d := (some 7)) (by kernel_rfl) (by kernel_rfl) (by kernel_rfl) e3 (p1 Pan.fin)
noncomputable def pattern_reader_member_fn (call : CallF) (n : Nat) : FnT := fun args h => match args with
 | [x0, x1] => pattern_reader_member call n x0 x1 h
 | _ => none
set_option maxRecDepth 100000 in
theorem pattern_reader_member_fn_eq (call : CallF) (n : Nat) (t0 : AV) (t1 : AV) (h : AHeap) : pattern_reader_member_fn call n [t0, t1] h = pattern_reader_member call n t0 t1 h :=
 rfl
theorem pattern_reader_member_holds {call : CallF} (hc : SaysAll Pg call) (n : Nat) : Holds Pg 93 (pattern_reader_member_fn call n) := by
 intro args h r h2 e
 unfold pattern_reader_member_fn at e
 split at e
 ·exact pattern_reader_member_ok hc e
 ·cases e
noncomputable def pattern_reader_memberByte (call : CallF) (_ : Nat) (t0 : AV) (h : AHeap) : R :=
 callK (call 71 [t0] h) fun r5 h_3 =>
 obind (avInt .u8 r5) fun t5 =>
 lett ((t5 : Int) == 92) fun (t8 : Bool) =>
 ifB t8
 (
  callK (call 71 [t0] h_3) fun r10 h_12 =>
  obind (avInt .u8 r10) fun t10 =>
  some (.ret (.int .u8 t10), h_12))
 (
  lett ((t5 : Int) == 91) fun (t12 : Bool) =>
  lett (fun (t11 : Bool) (h_20 : AHeap) =>
   lett (fun  (h_22 : AHeap) =>
    some (.ret (.int .u8 t5), h_22)) fun k21 =>
   ifB t11
   (
    callK (call 72 [t0] h_20) fun _ h_24 =>
    k21 h_24)
   (
    k21 h_20)) fun k19 =>
  ifB t12
  (
   k19 true h_3)
  (
   lett ((t5 : Int) == 93) fun (t13 : Bool) =>
   lett (fun (t11_30 : Bool) (h_31 : AHeap) =>
    k19 t11_30 h_31) fun k29 =>
   ifB t13
   (
    k29 true h_3)
   (
    lett ((t5 : Int) == 94) fun (t14 : Bool) =>
    lett (fun (t11_35 : Bool) (h_36 : AHeap) =>
     k29 t11_35 h_36) fun k34 =>
    ifB t14
    (
     k34 true h_3)
    (
     lett ((t5 : Int) == 45) fun (t15 : Bool) =>
     k34 t15 h_3))))
theorem pattern_reader_memberByte_ok {call : CallF} (hc : SaysAll Pg call) {n : Nat} {t0 : AV} {h : AHeap} {rR : ARes} {hR : AHeap} (z : pattern_reader_memberByte call n t0 h = some (rR, hR)) : Says Pg 94 [t0] h rR hR := by
 unfold pattern_reader_memberByte at z
 refine says_of (fn := Try.f94) Try.func94 (c := codeOf Try.f94) (by kernel_rfl) (by kernel_rfl) (fun w0 m0 => ?_)
 refine W.weaken (l' := [(0, t0)]) (Fr.c Fr.n) ?_
 refine W.s (fun _ n1 _ _ _ => ?_)
 refine W.r ?_
 refine WL.a (some 2) (.int .u8 0) h ?_
 refine WL.n ?_
 refine Go.weaken (l' := [(0, t0)]) (Fr.c Fr.n) ?_
 refine n1 ?_
 refine W.s (fun _ n2 _ _ p2 => ?_)
 refine W.r ?_
 refine WL.a (some 4) t0 h ?_
 replace z := callK_some z; rcases z with ⟨r5, h_3, e4, z⟩ | ⟨r5, h_3, e4, q38⟩
 ·replace z := oS z; obtain ⟨t5, c5, z⟩ := z
  have c5 := avInt_some c5
  subst c5
  refine WL.c (hc.ok w0) (some 5) e4 ?_
  refine WL.a (some 3) (.int .u8 t5) h_3 ?_
  refine WL.n ?_
  refine Go.weaken (l' := [(0, t0), (3, .int .u8 t5)]) (Fr.c (Fr.c Fr.n)) ?_
  refine n2 ?_
  refine W.s (fun _ n6 _ q6 p6 => ?_)
  refine W.s (fun _ n7 _ _ _ => ?_)
  refine W.r ?_
  refine WL.a (some 6) (.int .u8 t5) h_3 ?_
  refine WL.n ?_
  refine Go.weaken (l' := [(0, t0), (3, .int .u8 t5), (6, .int .u8 t5)]) (Fr.c (Fr.c (Fr.c Fr.n))) ?_
  refine n7 ?_
  refine W.blockK (by kernel_rfl) (fun K8 n8 s8 o8 q8 p8 => ?_)
  refine W.s (fun _ n9 _ _ _ => ?_)
  refine W.r ?_
  replace z := lS z; obtain ⟨t8, e10, z⟩ := z
  refine WL.val (d := (some 8)) (v := .bool t8) (h' := h_3) (by kernel_rfl) (by kernel_rfl) (val_of AV.bool e10 (by kernel_rfl)) ?_
  refine WL.a (some 7) (.bool t8) h_3 ?_
  refine WL.n ?_
  refine Go.weaken (l' := [(0, t0), (3, .int .u8 t5), (6, .int .u8 t5), (7, .bool t8)]) (Fr.c (Fr.c (Fr.c (Fr.c Fr.n)))) ?_
  refine n9 ?_
  cases t8 with
  | true =>
   replace z := ifB_t z
   refine W.t ?_
   refine W.s (fun _ n11 _ _ p11 => ?_)
   refine W.r ?_
   refine WL.a (some 9) t0 h_3 ?_
   replace z := callK_some z; rcases z with ⟨r10, h_12, e13, z⟩ | ⟨r10, h_12, e13, q15⟩
   ·replace z := oS z; obtain ⟨t10, c14, z⟩ := z
    have c14 := avInt_some c14
    subst c14
    refine WL.c (hc.ok w0) (some 10) e13 ?_
    refine WL.a (some 2) (.int .u8 t10) h_12 ?_
    refine WL.n ?_
    refine Go.weaken (l' := [(2, .int .u8 t10)]) (Fr.c Fr.n) ?_
    refine n11 ?_
    refine W.ret (by kernel_rfl) ?_
    refine q8 ?_
    refine q6 ?_
    obtain ⟨z, hF2⟩ := ret_inj z; subst z; subst hF2
    exact leave_of (rs := [.tmp 2]) (vs := [.int .u8 t10]) (by kernel_rfl) (res_tmp (by kernel_rfl) res_nil) (by kernel_rfl)
   ·obtain ⟨zq, zr⟩ := pan_inj q15; subst zq; subst zr
    exact WL.callPanic (hc.ok w0) (d := (some 10)) (by kernel_rfl) (by kernel_rfl) (by kernel_rfl) e13 (p11 (p8 (p6 Pan.fin)))
  | false =>
   replace z := ifB_f z
   refine W.f ?_
   refine W.s (fun K16 n16 _ _ _ => ?_)
   refine W.s (fun _ n17 _ _ _ => ?_)
   refine W.r ?_
   replace z := lS z; obtain ⟨t12, e18, z⟩ := z
   refine WL.val (d := (some 12)) (v := .bool t12) (h' := h_3) (by kernel_rfl) (by kernel_rfl) (val_of AV.bool e18 (by kernel_rfl)) ?_
   refine WL.a (some 11) (.bool t12) h_3 ?_
   refine WL.n ?_
   refine Go.weaken (l' := [(0, t0), (3, .int .u8 t5), (6, .int .u8 t5), (11, .bool t12)]) (Fr.c (Fr.c (Fr.c (Fr.c Fr.n)))) ?_
   refine n17 ?_
   replace z := lS z; obtain ⟨k19, e19, z⟩ := z
   have J19 : ∀ (t11 : Bool) (h_20 : AHeap), k19 t11 h_20 = some (rR, hR) → Go w0 m0 (Func.ntmps Try.f94) (K16 .normal) [(0, t0), (3, .int .u8 t5), (11, .bool t11)] [] h_20 := by
    intro t11 h_20 z
    rw [e19] at z
    refine n16 ?_
    replace z := lS z; obtain ⟨k21, e21, z⟩ := z
    have J21 : ∀  (h_22 : AHeap), k21 h_22 = some (rR, hR) → Go w0 m0 (Func.ntmps Try.f94) (K8 .normal) [(3, .int .u8 t5)] [] h_22 := by
     intro  h_22 z
     rw [e21] at z
     refine n8 ?_
     refine n6 ?_
     refine W.s (fun _ n23 _ _ _ => ?_)
     refine W.r ?_
     refine WL.a (some 18) (.int .u8 t5) h_22 ?_
     refine WL.a (some 2) (.int .u8 t5) h_22 ?_
     refine WL.n ?_
     refine Go.weaken (l' := [(2, .int .u8 t5)]) (Fr.c Fr.n) ?_
     refine n23 ?_
     refine W.ret (by kernel_rfl) ?_
     obtain ⟨z, hF2⟩ := ret_inj z; subst z; subst hF2
     exact leave_of (rs := [.tmp 2]) (vs := [.int .u8 t5]) (by kernel_rfl) (res_tmp (by kernel_rfl) res_nil) (by kernel_rfl)
    cases t11 with
    | true =>
     replace z := ifB_t z
     refine W.t ?_
     refine W.r ?_
     refine WL.a (some 16) t0 h_20 ?_
     replace z := callK_some z; rcases z with ⟨r17, h_24, e25, z⟩ | ⟨r17, h_24, e25, q26⟩
     ·refine WL.c (hc.ok w0) (some 17) e25 ?_
      refine WL.n ?_
      refine Go.weaken (l' := [(3, .int .u8 t5)]) (Fr.c Fr.n) ?_
      exact Go.weaken (Fr.c Fr.n) (J21 _ z)
     ·obtain ⟨zq, zr⟩ := pan_inj q26; subst zq; subst zr
      exact WL.callPanic (hc.ok w0) (d := (some 17)) (by kernel_rfl) (by kernel_rfl) (by kernel_rfl) e25 (p8 (p6 Pan.fin))
    | false =>
     replace z := ifB_f z
     refine W.f ?_
     refine W.skip (by kernel_rfl) ?_
     exact Go.weaken (Fr.c Fr.n) (J21 _ z)
   cases t12 with
   | true =>
    replace z := ifB_t z
    refine W.t ?_
    refine W.skip (by kernel_rfl) ?_
    exact Go.weaken (Fr.c (Fr.c (Fr.c Fr.n))) (J19 _ _ z)
   | false =>
    replace z := ifB_f z
    refine W.f ?_
    refine W.s (fun _ n27 _ _ _ => ?_)
    refine W.r ?_
    replace z := lS z; obtain ⟨t13, e28, z⟩ := z
    refine WL.val (d := (some 13)) (v := .bool t13) (h' := h_3) (by kernel_rfl) (by kernel_rfl) (val_of AV.bool e28 (by kernel_rfl)) ?_
    refine WL.a (some 11) (.bool t13) h_3 ?_
    refine WL.n ?_
    refine Go.weaken (l' := [(0, t0), (3, .int .u8 t5), (6, .int .u8 t5), (11, .bool t13)]) (Fr.c (Fr.c (Fr.c (Fr.c Fr.n)))) ?_
    refine n27 ?_
    replace z := lS z; obtain ⟨k29, e29, z⟩ := z
    have J29 : ∀ (t11_30 : Bool) (h_31 : AHeap), k29 t11_30 h_31 = some (rR, hR) → Go w0 m0 (Func.ntmps Try.f94) (K16 .normal) [(0, t0), (3, .int .u8 t5), (11, .bool t11_30)] [] h_31 := by
     intro t11_30 h_31 z
     rw [e29] at z
     exact Go.weaken (Fr.c (Fr.c (Fr.c Fr.n))) (J19 _ _ z)
    cases t13 with
    | true =>
     replace z := ifB_t z
     refine W.t ?_
     refine W.skip (by kernel_rfl) ?_
     exact Go.weaken (Fr.c (Fr.c (Fr.c Fr.n))) (J29 _ _ z)
    | false =>
     replace z := ifB_f z
     refine W.f ?_
     refine W.s (fun _ n32 _ _ _ => ?_)
     refine W.r ?_
     replace z := lS z; obtain ⟨t14, e33, z⟩ := z
     refine WL.val (d := (some 14)) (v := .bool t14) (h' := h_3) (by kernel_rfl) (by kernel_rfl) (val_of AV.bool e33 (by kernel_rfl)) ?_
     refine WL.a (some 11) (.bool t14) h_3 ?_
     refine WL.n ?_
     refine Go.weaken (l' := [(0, t0), (3, .int .u8 t5), (6, .int .u8 t5), (11, .bool t14)]) (Fr.c (Fr.c (Fr.c (Fr.c Fr.n)))) ?_
     refine n32 ?_
     replace z := lS z; obtain ⟨k34, e34, z⟩ := z
     have J34 : ∀ (t11_35 : Bool) (h_36 : AHeap), k34 t11_35 h_36 = some (rR, hR) → Go w0 m0 (Func.ntmps Try.f94) (K16 .normal) [(0, t0), (3, .int .u8 t5), (11, .bool t11_35)] [] h_36 := by
      intro t11_35 h_36 z
      rw [e34] at z
      exact Go.weaken (Fr.c (Fr.c (Fr.c Fr.n))) (J29 _ _ z)
     cases t14 with
     | true =>
      replace z := ifB_t z
      refine W.t ?_
      refine W.skip (by kernel_rfl) ?_
      exact Go.weaken (Fr.c (Fr.c (Fr.c Fr.n))) (J34 _ _ z)
     | false =>
      replace z := ifB_f z
      refine W.f ?_
      refine W.r ?_
      replace z := lS z; obtain ⟨t15, e37, z⟩ := z
      refine WL.val (d := (some 15)) (v := .bool t15) (h' := h_3) (by kernel_rfl) (by kernel_rfl) (val_of AV.bool e37 (by kernel_rfl)) ?_
      refine WL.a (some 11) (.bool t15) h_3 ?_
      refine WL.n ?_
      refine Go.weaken (l' := [(0, t0), (3, .int .u8 t5), (11, .bool t15)]) (Fr.c (Fr.c (Fr.c Fr.n))) ?_
      exact Go.weaken (Fr.c (Fr.c (Fr.c Fr.n))) (J34 _ _ z)
 ·obtain ⟨zq, zr⟩ := pan_inj q38; subst zq; subst zr
  exact WL.callPanic (hc.ok w0) (d := (some 5)) (by kernel_rfl) (by kernel_rfl) (by kernel_rfl) e4 (p2 Pan.fin)
noncomputable def pattern_reader_memberByte_fn (call : CallF) (n : Nat) : FnT := fun args h => match args with
 | [x0] => pattern_reader_memberByte call n x0 h
 | _ => none
set_option maxRecDepth 100000 in
theorem pattern_reader_memberByte_fn_eq (call : CallF) (n : Nat) (t0 : AV) (h : AHeap) : pattern_reader_memberByte_fn call n [t0] h = pattern_reader_memberByte call n t0 h :=
 rfl
theorem pattern_reader_memberByte_holds {call : CallF} (hc : SaysAll Pg call) (n : Nat) : Holds Pg 94 (pattern_reader_memberByte_fn call n) := by
 intro args h r h2 e
 unfold pattern_reader_memberByte_fn at e
 split at e
 ·exact pattern_reader_memberByte_ok hc e
 ·cases e
noncomputable def pattern_addSpan_L0b (t0 : AV) (t2 : Int) (k4 : AHeap → R) (self : Int → AHeap → R) (t6 : Int) (h_7 : AHeap) : R :=
 lett (IntKind.i64.wrap t2) fun (t11 : Int) =>
 lett (decide (t6 ≤ t11)) fun (t12 : Bool) =>
 ifB t12
 (
  obind (quoI .i64 t6 64) fun t17 =>
  obind (nilC t0) fun t18 =>
  obind (idxA 4 1 t18 t17) fun t19 =>
  obind (ldCell h_7 t19) fun v20 =>
  obind (avInt .u64 v20) fun t20 =>
  obind (remI .i64 t6 64) fun t22 =>
  obind (shlI .u64 1 t22) fun t23 =>
  lett (orI .u64 t20 t23) fun (t24 : Int) =>
  obind (nilC t0) fun t25 =>
  obind (idxA 4 1 t25 t17) fun t26 =>
  obind (stRow h_7 1 [.int .u64 t24] t26) fun h_24 =>
  lett (IntKind.i64.wrap (t6 + 1)) fun (t14 : Int) =>
  self t14 h_24)
 (
  k4 h_7)
noncomputable def pattern_addSpan_L0 (t0 : AV) (t2 : Int) (k4 : AHeap → R) : Nat → Int → AHeap → R := iterR (fun _ _ => none) (pattern_addSpan_L0b t0 t2 k4)
theorem pattern_addSpan_L0_s (t0 : AV) (t2 : Int) (k4 : AHeap → R) (m : Nat) : pattern_addSpan_L0 t0 t2 k4 (m + 1) = pattern_addSpan_L0b t0 t2 k4 (pattern_addSpan_L0 t0 t2 k4 m) := rfl
noncomputable def pattern_addSpan (_ : CallF) (n : Nat) (t0 : AV) (t1 : Int) (t2 : Int) (h : AHeap) : R :=
 lett (IntKind.i64.wrap t1) fun (t8 : Int) =>
 lett (fun  (h_5 : AHeap) =>
  some (.ret (.tup []), h_5)) fun k4 =>
 pattern_addSpan_L0 t0 t2 k4 n t8 h
theorem pattern_addSpan_ok {call : CallF} (hc : SaysAll Pg call) {n : Nat} {t0 : AV} {t1 : Int} {t2 : Int} {h : AHeap} {rR : ARes} {hR : AHeap} (z : pattern_addSpan call n t0 t1 t2 h = some (rR, hR)) : Says Pg 84 [t0, .int .u8 t1, .int .u8 t2] h rR hR := by
 unfold pattern_addSpan at z
 refine says_of (fn := Try.f84) Try.func84 (c := codeOf Try.f84) (by kernel_rfl) (by kernel_rfl) (fun w0 m0 => ?_)
 refine W.weaken (l' := [(0, t0), (1, .int .u8 t1), (2, .int .u8 t2)]) (Fr.c (Fr.c (Fr.c Fr.n))) ?_
 refine W.s (fun _ n1 _ _ _ => ?_)
 refine W.r ?_
 refine WL.a (some 7) (.int .u8 t1) h ?_
 replace z := lS z; obtain ⟨t8, e2, z⟩ := z
 refine WL.val (d := (some 8)) (v := .int .i64 t8) (h' := h) (by kernel_rfl) (by kernel_rfl) (val_of (AV.int .i64) e2 (by kernel_rfl)) ?_
 refine WL.a (some 6) (.int .i64 t8) h ?_
 refine WL.n ?_
 refine Go.weaken (l' := [(0, t0), (2, .int .u8 t2), (6, .int .i64 t8)]) (Fr.c (Fr.c (Fr.c Fr.n))) ?_
 refine n1 ?_
 replace z := lS z; obtain ⟨k4, e4, z⟩ := z
 have J4 : ∀  (h_5 : AHeap), k4 h_5 = some (rR, hR) → Go w0 m0 (Func.ntmps Try.f84) (Fin Pg Try.f84 w0 m0 rR hR .normal) [] [] h_5 := by
  intro  h_5 z
  rw [e4] at z
  obtain ⟨z, hF2⟩ := ret_inj z; subst z; subst hF2
  exact leaveN_of (rs := []) (vs := []) (by kernel_rfl) res_nil (by kernel_rfl)
 refine W.blockK (by kernel_rfl) (fun K3 n3 s3 o3 q3 p3 => ?_)
 refine W.loopK (by kernel_rfl) (fun I6 K6 b6 n6 e6 q6 p6 => ?_)
 have L6 : ∀ (m : Nat) (t6 : Int) (h_7 : AHeap), pattern_addSpan_L0 t0 t2 k4 m t6 h_7 = some (rR, hR) → Go w0 m0 (Func.ntmps Try.f84) I6 [(0, t0), (2, .int .u8 t2), (6, .int .i64 t6)] [] h_7 := by
  intro m
  induction m with
  | zero => intro t6 h_7 z; cases z
  | succ m ih6 =>
   intro t6 h_7 z
   rw [pattern_addSpan_L0_s] at z; unfold pattern_addSpan_L0b at z
   refine b6 ?_
   refine W.s (fun _ n8 e8 _ _ => ?_)
   refine W.s (fun _ n9 _ _ _ => ?_)
   refine W.r ?_
   refine WL.a (some 9) (.int .i64 t6) h_7 ?_
   refine WL.a (some 10) (.int .u8 t2) h_7 ?_
   replace z := lS z; obtain ⟨t11, e10, z⟩ := z
   refine WL.val (d := (some 11)) (v := .int .i64 t11) (h' := h_7) (by kernel_rfl) (by kernel_rfl) (val_of (AV.int .i64) e10 (by kernel_rfl)) ?_
   replace z := lS z; obtain ⟨t12, e11, z⟩ := z
   refine WL.val (d := (some 12)) (v := .bool t12) (h' := h_7) (by kernel_rfl) (by kernel_rfl) (val_of AV.bool e11 (by kernel_rfl)) ?_
   refine WL.n ?_
   refine Go.weaken (l' := [(0, t0), (2, .int .u8 t2), (6, .int .i64 t6), (12, .bool t12)]) (Fr.c (Fr.c (Fr.c (Fr.c Fr.n)))) ?_
   refine n9 ?_
   cases t12 with
   | true =>
    replace z := ifB_t z
    refine W.t ?_
    refine W.skip (by kernel_rfl) ?_
    refine n8 ?_
    refine W.s (fun _ n12 _ _ _ => ?_)
    refine W.blockK (by kernel_rfl) (fun K13 n13 s13 o13 q13 p13 => ?_)
    refine W.draw (by kernel_rfl) (hc.ok w0) (plan := [0, 1, 2, 3, 4, 5, 6, 7, 8, 9, 10, 11, 12]) (by kernel_rfl) (by kernel_rfl) (by kernel_rfl) ?_
    refine WD.a 0 (some 15) t0 h_7 ?_
    refine WD.a 0 (some 16) (.int .i64 t6) h_7 ?_
    replace z := oS z; obtain ⟨t17, e14, z⟩ := z
    refine WD.b 0 (some 17) (.int .i64 t17) h_7 (quo_int (P := Pg) (h := h_7) (t := 3) (lit := true) e14) ?_
    replace z := oS z; obtain ⟨t18, e15, z⟩ := z
    refine WD.b 0 (some 18) t18 h_7 (nil_chk (h := h_7) e15) ?_
    replace z := oS z; obtain ⟨t19, e16, z⟩ := z
    refine WD.b 0 (some 19) t19 h_7 (index_arr (P := Pg) (h := h_7) (t := 38) (e' := 36) (k := .i64) (by kernel_rfl) (by kernel_rfl) (by kernel_rfl) e16) ?_
    replace z := oS z; obtain ⟨v20, e17, z⟩ := z
    replace z := oS z; obtain ⟨t20, c18, z⟩ := z
    have c18 := avInt_some c18
    subst c18
    refine WD.b 1 (some 20) (.int .u64 t20) h_7 (load_cell (P := Pg) (h := h_7) (t := 36) (by kernel_rfl) e17) ?_
    refine WD.a 0 (some 21) (.int .i64 t6) h_7 ?_
    replace z := oS z; obtain ⟨t22, e19, z⟩ := z
    refine WD.b 0 (some 22) (.int .i64 t22) h_7 (rem_int (P := Pg) (h := h_7) (t := 3) (lit := true) e19) ?_
    replace z := oS z; obtain ⟨t23, e20, z⟩ := z
    refine WD.b 0 (some 23) (.int .u64 t23) h_7 (shl_int (P := Pg) (h := h_7) (t := 36) (k' := .i64) (lit := true) e20) ?_
    replace z := lS z; obtain ⟨t24, e21, z⟩ := z
    refine WD.val (d := (some 24)) (v := .int .u64 t24) (h' := h_7) (by kernel_rfl) (by kernel_rfl) (val_of (AV.int .u64) e21 (by kernel_rfl)) (k := 0) (by kernel_rfl) (fun e => absurd e (by decide)) (by decide) ?_
    replace z := oS z; obtain ⟨t25, e22, z⟩ := z
    refine WD.b 0 (some 25) t25 h_7 (nil_chk (h := h_7) e22) ?_
    replace z := oS z; obtain ⟨t26, e23, z⟩ := z
    refine WD.b 0 (some 26) t26 h_7 (index_arr (P := Pg) (h := h_7) (t := 38) (e' := 36) (k := .i64) (by kernel_rfl) (by kernel_rfl) (by kernel_rfl) e23) ?_
    replace z := oS z; obtain ⟨h_24, e25, z⟩ := z
    refine WD.eff (h' := h_24) (by kernel_rfl) (by kernel_rfl) (Eq.trans (by kernel_rfl) (store_row (P := Pg) (h := h_7) (t := 36) (v := (.int .u64 t24)) (by kernel_rfl) (by kernel_rfl) e25)) (k := 2) (by kernel_rfl) (fun _ => (by kernel_rfl)) (by decide) ?_
    refine WD.nil ?_
    refine Go.weaken (l' := [(0, t0), (2, .int .u8 t2), (6, .int .i64 t6)]) (Fr.c (Fr.c (Fr.c Fr.n))) ?_
    refine n13 ?_
    refine n12 ?_
    refine W.r ?_
    refine WL.a (some 13) (.int .i64 t6) h_24 ?_
    replace z := lS z; obtain ⟨t14, e26, z⟩ := z
    refine WL.val (d := (some 14)) (v := .int .i64 t14) (h' := h_24) (by kernel_rfl) (by kernel_rfl) (val_of (AV.int .i64) e26 (by kernel_rfl)) ?_
    refine WL.a (some 6) (.int .i64 t14) h_24 ?_
    refine WL.n ?_
    refine Go.weaken (l' := [(0, t0), (2, .int .u8 t2), (6, .int .i64 t14)]) (Fr.c (Fr.c (Fr.c Fr.n))) ?_
    refine n6 ?_
    exact Go.weaken (Fr.c (Fr.c (Fr.c Fr.n))) (ih6 _ _ z)
   | false =>
    replace z := ifB_f z
    refine W.f ?_
    refine W.exit (by kernel_rfl) ?_
    refine e8 ?_
    refine e6 ?_
    refine s3 (by kernel_rfl) ?_
    exact Go.weaken Fr.n (J4 _ z)
 exact Go.weaken (Fr.c (Fr.c (Fr.c Fr.n))) (L6 _ _ _ z)
noncomputable def pattern_addSpan_fn (call : CallF) (n : Nat) : FnT := fun args h => match args with
 | [x0, x1, x2] => obind (avInt .u8 x1) fun t1 => obind (avInt .u8 x2) fun t2 => pattern_addSpan call n x0 t1 t2 h
 | _ => none
set_option maxRecDepth 100000 in
theorem pattern_addSpan_fn_eq (call : CallF) (n : Nat) (t0 : AV) (t1 : Int) (t2 : Int) (h : AHeap) : pattern_addSpan_fn call n [t0, .int .u8 t1, .int .u8 t2] h = pattern_addSpan call n t0 t1 t2 h :=
 (Eq.trans (obind_eq (fun t1 => obind (avInt .u8 (.int .u8 t2)) fun t2 => pattern_addSpan call n t0 t1 t2 h) (avInt_int .u8 t1)) (Eq.trans (obind_eq (fun t2 => pattern_addSpan call n t0 t1 t2 h) (avInt_int .u8 t2)) rfl))
theorem pattern_addSpan_holds {call : CallF} (hc : SaysAll Pg call) (n : Nat) : Holds Pg 84 (pattern_addSpan_fn call n) := by
 intro args h r h2 e
 unfold pattern_addSpan_fn at e
 split at e
 ·replace e := oS e; obtain ⟨t1, c1, e⟩ := e; have c1 := avInt_some c1; subst c1
  replace e := oS e; obtain ⟨t2, c2, e⟩ := e; have c2 := avInt_some c2; subst c2
  exact pattern_addSpan_ok hc e
 ·cases e
noncomputable def pattern_oneByte (call : CallF) (_ : Nat) (t0 : Int) (h : AHeap) : R :=
 lett (newH h 41 [.int .i64 0, .int .u64 0, .int .u64 0, .int .u64 0, .int .u64 0, .nsl]) fun h_2 =>
 lett (newH h_2 41 [.int .i64 0, .int .u64 0, .int .u64 0, .int .u64 0, .int .u64 0, .nsl]) fun h_5 =>
 obind (stRow h_5 6 ([.int .i64 2, .int .u64 0, .int .u64 0, .int .u64 0, .int .u64 0, .nsl] : List AV) (newP h_2)) fun h_7 =>
 callN (call 84 [(AV.ptr (AHeap.next h_2) 1), .int .u8 t0, .int .u8 t0] h_7) fun _ h_10 =>
 obind (ldRow h_10 6 (newP h_2)) fun t9 =>
 obind (stRow h_10 6 t9 (newP h)) fun h_14 =>
 obind (ldRow h_14 6 (newP h)) fun w2 =>
 some (.ret (.agg w2), h_14)
theorem pattern_oneByte_ok {call : CallF} (hc : SaysAll Pg call) {n : Nat} {t0 : Int} {h : AHeap} {rR : ARes} {hR : AHeap} (z : pattern_oneByte call n t0 h = some (rR, hR)) : Says Pg 78 [.int .u8 t0] h rR hR := by
 unfold pattern_oneByte at z
 refine says_of (fn := Try.f78) Try.func78 (c := codeOf Try.f78) (by kernel_rfl) (by kernel_rfl) (fun w0 m0 => ?_)
 refine W.weaken (l' := [(0, .int .u8 t0)]) (Fr.c Fr.n) ?_
 refine W.s (fun _ n1 _ _ _ => ?_)
 refine W.r ?_
 replace z := lS z; obtain ⟨h_2, e3, z⟩ := z
 refine WL.val (d := (some 2)) (v := (newP h)) (h' := h_2) (by kernel_rfl) (by kernel_rfl) (val_ofH e3 (by kernel_rfl)) ?_
 refine WL.n ?_
 refine Go.weaken (l' := [(0, .int .u8 t0), (2, newP h)]) (Fr.c (Fr.c Fr.n)) ?_
 refine n1 ?_
 refine W.s (fun _ n4 _ _ _ => ?_)
 refine W.r ?_
 refine WL.a (some 4) (.agg ([.int .i64 2, .int .u64 0, .int .u64 0, .int .u64 0, .int .u64 0, .nsl] : List AV)) h_2 ?_
 replace z := lS z; obtain ⟨h_5, e6, z⟩ := z
 refine WL.val (d := (some 3)) (v := (newP h_2)) (h' := h_5) (by kernel_rfl) (by kernel_rfl) (val_ofH e6 (by kernel_rfl)) ?_
 replace z := oS z; obtain ⟨h_7, e8, z⟩ := z
 refine WL.e h_7 (store_row (P := Pg) (h := h_5) (t := 41) (v := (.agg ([.int .i64 2, .int .u64 0, .int .u64 0, .int .u64 0, .int .u64 0, .nsl] : List AV))) (by kernel_rfl) (by kernel_rfl) e8) ?_
 refine WL.n ?_
 refine Go.weaken (l' := [(0, .int .u8 t0), (2, newP h), (3, newP h_2)]) (Fr.c (Fr.c (Fr.c Fr.n))) ?_
 refine n4 ?_
 refine W.s (fun _ n9 _ _ _ => ?_)
 refine W.r ?_
 refine WL.a (some 5) (AV.ptr (AHeap.next h_2) 1) h_7 ?_
 refine WL.a (some 6) (.int .u8 t0) h_7 ?_
 refine WL.a (some 7) (.int .u8 t0) h_7 ?_
 replace z := callN_some z; obtain ⟨r8, h_10, e11, z⟩ := z
 refine WL.c (hc.ok w0) (some 8) e11 ?_
 refine WL.n ?_
 refine Go.weaken (l' := [(2, newP h), (3, newP h_2)]) (Fr.c (Fr.c Fr.n)) ?_
 refine n9 ?_
 refine W.s (fun _ n12 _ _ _ => ?_)
 refine W.r ?_
 replace z := oS z; obtain ⟨t9, e13, z⟩ := z
 refine WL.b (some 9) (.agg t9) h_10 (load_row (P := Pg) (h := h_10) (t := 41) (by kernel_rfl) (by kernel_rfl) e13) ?_
 replace z := oS z; obtain ⟨h_14, e15, z⟩ := z
 refine WL.e h_14 (store_row (P := Pg) (h := h_10) (t := 41) (v := (.agg t9)) (by kernel_rfl) (by kernel_rfl) e15) ?_
 refine WL.n ?_
 refine Go.weaken (l' := [(2, newP h)]) (Fr.c Fr.n) ?_
 refine n12 ?_
 refine W.ret (by kernel_rfl) ?_
 replace z := oS z; obtain ⟨w2, e16, z⟩ := z
 obtain ⟨z, hF2⟩ := ret_inj z; subst z; subst hF2
 exact leave_of (rs := [.cell 2 41]) (vs := [.agg w2]) (by kernel_rfl) (res_cell (by kernel_rfl) (load_row (P := Pg) (h := h_14) (t := 41) (by kernel_rfl) (by kernel_rfl) e16) res_nil) (by kernel_rfl)
noncomputable def pattern_oneByte_fn (call : CallF) (n : Nat) : FnT := fun args h => match args with
 | [x0] => obind (avInt .u8 x0) fun t0 => pattern_oneByte call n t0 h
 | _ => none
set_option maxRecDepth 100000 in
theorem pattern_oneByte_fn_eq (call : CallF) (n : Nat) (t0 : Int) (h : AHeap) : pattern_oneByte_fn call n [.int .u8 t0] h = pattern_oneByte call n t0 h :=
 (Eq.trans (obind_eq (fun t0 => pattern_oneByte call n t0 h) (avInt_int .u8 t0)) rfl)
theorem pattern_oneByte_holds {call : CallF} (hc : SaysAll Pg call) (n : Nat) : Holds Pg 78 (pattern_oneByte_fn call n) := by
 intro args h r h2 e
 unfold pattern_oneByte_fn at e
 split at e
 ·replace e := oS e; obtain ⟨t0, c0, e⟩ := e; have c0 := avInt_some c0; subst c0
  exact pattern_oneByte_ok hc e
 ·cases e
noncomputable def pattern_anyByte (call : CallF) (_ : Nat)  (h : AHeap) : R :=
 lett (newH h 41 [.int .i64 0, .int .u64 0, .int .u64 0, .int .u64 0, .int .u64 0, .nsl]) fun h_2 =>
 lett (newH h_2 41 [.int .i64 0, .int .u64 0, .int .u64 0, .int .u64 0, .int .u64 0, .nsl]) fun h_5 =>
 obind (stRow h_5 6 ([.int .i64 2, .int .u64 0, .int .u64 0, .int .u64 0, .int .u64 0, .nsl] : List AV) (newP h_2)) fun h_7 =>
 callN (call 84 [(AV.ptr (AHeap.next h_2) 1), .int .u8 0, .int .u8 255] h_7) fun _ h_10 =>
 obind (ldRow h_10 6 (newP h_2)) fun t5 =>
 obind (stRow h_10 6 t5 (newP h)) fun h_14 =>
 obind (ldRow h_14 6 (newP h)) fun w0 =>
 some (.ret (.agg w0), h_14)
theorem pattern_anyByte_ok {call : CallF} (hc : SaysAll Pg call) {n : Nat}  {h : AHeap} {rR : ARes} {hR : AHeap} (z : pattern_anyByte call n  h = some (rR, hR)) : Says Pg 77 [] h rR hR := by
 unfold pattern_anyByte at z
 refine says_of (fn := Try.f77) Try.func77 (c := codeOf Try.f77) (by kernel_rfl) (by kernel_rfl) (fun w0 m0 => ?_)
 refine W.weaken (l' := []) Fr.n ?_
 refine W.s (fun _ n1 _ _ _ => ?_)
 refine W.r ?_
 replace z := lS z; obtain ⟨h_2, e3, z⟩ := z
 refine WL.val (d := (some 0)) (v := (newP h)) (h' := h_2) (by kernel_rfl) (by kernel_rfl) (val_ofH e3 (by kernel_rfl)) ?_
 refine WL.n ?_
 refine Go.weaken (l' := [(0, newP h)]) (Fr.c Fr.n) ?_
 refine n1 ?_
 refine W.s (fun _ n4 _ _ _ => ?_)
 refine W.r ?_
 refine WL.a (some 2) (.agg ([.int .i64 2, .int .u64 0, .int .u64 0, .int .u64 0, .int .u64 0, .nsl] : List AV)) h_2 ?_
 replace z := lS z; obtain ⟨h_5, e6, z⟩ := z
 refine WL.val (d := (some 1)) (v := (newP h_2)) (h' := h_5) (by kernel_rfl) (by kernel_rfl) (val_ofH e6 (by kernel_rfl)) ?_
 replace z := oS z; obtain ⟨h_7, e8, z⟩ := z
 refine WL.e h_7 (store_row (P := Pg) (h := h_5) (t := 41) (v := (.agg ([.int .i64 2, .int .u64 0, .int .u64 0, .int .u64 0, .int .u64 0, .nsl] : List AV))) (by kernel_rfl) (by kernel_rfl) e8) ?_
 refine WL.n ?_
 refine Go.weaken (l' := [(0, newP h), (1, newP h_2)]) (Fr.c (Fr.c Fr.n)) ?_
 refine n4 ?_
 refine W.s (fun _ n9 _ _ _ => ?_)
 refine W.r ?_
 refine WL.a (some 3) (AV.ptr (AHeap.next h_2) 1) h_7 ?_
 replace z := callN_some z; obtain ⟨r4, h_10, e11, z⟩ := z
 refine WL.c (hc.ok w0) (some 4) e11 ?_
 refine WL.n ?_
 refine Go.weaken (l' := [(0, newP h), (1, newP h_2)]) (Fr.c (Fr.c Fr.n)) ?_
 refine n9 ?_
 refine W.s (fun _ n12 _ _ _ => ?_)
 refine W.r ?_
 replace z := oS z; obtain ⟨t5, e13, z⟩ := z
 refine WL.b (some 5) (.agg t5) h_10 (load_row (P := Pg) (h := h_10) (t := 41) (by kernel_rfl) (by kernel_rfl) e13) ?_
 replace z := oS z; obtain ⟨h_14, e15, z⟩ := z
 refine WL.e h_14 (store_row (P := Pg) (h := h_10) (t := 41) (v := (.agg t5)) (by kernel_rfl) (by kernel_rfl) e15) ?_
 refine WL.n ?_
 refine Go.weaken (l' := [(0, newP h)]) (Fr.c Fr.n) ?_
 refine n12 ?_
 refine W.ret (by kernel_rfl) ?_
 replace z := oS z; obtain ⟨w0, e16, z⟩ := z
 obtain ⟨z, hF2⟩ := ret_inj z; subst z; subst hF2
 exact leave_of (rs := [.cell 0 41]) (vs := [.agg w0]) (by kernel_rfl) (res_cell (by kernel_rfl) (load_row (P := Pg) (h := h_14) (t := 41) (by kernel_rfl) (by kernel_rfl) e16) res_nil) (by kernel_rfl)
noncomputable def pattern_anyByte_fn (call : CallF) (n : Nat) : FnT := fun args h => match args with
 | [] => pattern_anyByte call n  h
 | _ => none
set_option maxRecDepth 100000 in
theorem pattern_anyByte_fn_eq (call : CallF) (n : Nat)  (h : AHeap) : pattern_anyByte_fn call n [] h = pattern_anyByte call n  h :=
 rfl
theorem pattern_anyByte_holds {call : CallF} (hc : SaysAll Pg call) (n : Nat) : Holds Pg 77 (pattern_anyByte_fn call n) := by
 intro args h r h2 e
 unfold pattern_anyByte_fn at e
 split at e
 ·exact pattern_anyByte_ok hc e
 ·cases e
noncomputable def pattern_over (_ : CallF) (_ : Nat) (t0 : Int) (t1 : AV) (h : AHeap) : R :=
 lett (newH h 41 [.int .i64 0, .int .u64 0, .int .u64 0, .int .u64 0, .int .u64 0, .nsl]) fun h_2 =>
 obind (bldS Pg 41 [(0, .int .i64 t0), (2, t1)]) fun t7 =>
 obind (stRow h_2 6 t7 (newP h)) fun h_6 =>
 obind (ldRow h_6 6 (newP h)) fun w4 =>
 some (.ret (.agg w4), h_6)
theorem pattern_over_ok {call : CallF} (_ : SaysAll Pg call) {n : Nat} {t0 : Int} {t1 : AV} {h : AHeap} {rR : ARes} {hR : AHeap} (z : pattern_over call n t0 t1 h = some (rR, hR)) : Says Pg 76 [.int .i64 t0, t1] h rR hR := by
 unfold pattern_over at z
 refine says_of (fn := Try.f76) Try.func76 (c := codeOf Try.f76) (by kernel_rfl) (by kernel_rfl) (fun w0 m0 => ?_)
 refine W.weaken (l' := [(0, .int .i64 t0), (1, t1)]) (Fr.c (Fr.c Fr.n)) ?_
 refine W.s (fun _ n1 _ _ _ => ?_)
 refine W.r ?_
 replace z := lS z; obtain ⟨h_2, e3, z⟩ := z
 refine WL.val (d := (some 4)) (v := (newP h)) (h' := h_2) (by kernel_rfl) (by kernel_rfl) (val_ofH e3 (by kernel_rfl)) ?_
 refine WL.n ?_
 refine Go.weaken (l' := [(0, .int .i64 t0), (1, t1), (4, newP h)]) (Fr.c (Fr.c (Fr.c Fr.n))) ?_
 refine n1 ?_
 refine W.s (fun _ n4 _ _ _ => ?_)
 refine W.r ?_
 refine WL.a (some 5) (.int .i64 t0) h_2 ?_
 refine WL.a (some 6) t1 h_2 ?_
 replace z := oS z; obtain ⟨t7, e5, z⟩ := z
 refine WL.val (d := (some 7)) (v := .agg t7) (h' := h_2) (by kernel_rfl) (by kernel_rfl) (bld_ok (by kernel_rfl) e5) ?_
 replace z := oS z; obtain ⟨h_6, e7, z⟩ := z
 refine WL.e h_6 (store_row (P := Pg) (h := h_2) (t := 41) (v := (.agg t7)) (by kernel_rfl) (by kernel_rfl) e7) ?_
 refine WL.n ?_
 refine Go.weaken (l' := [(4, newP h)]) (Fr.c Fr.n) ?_
 refine n4 ?_
 refine W.ret (by kernel_rfl) ?_
 replace z := oS z; obtain ⟨w4, e8, z⟩ := z
 obtain ⟨z, hF2⟩ := ret_inj z; subst z; subst hF2
 exact leave_of (rs := [.cell 4 41]) (vs := [.agg w4]) (by kernel_rfl) (res_cell (by kernel_rfl) (load_row (P := Pg) (h := h_6) (t := 41) (by kernel_rfl) (by kernel_rfl) e8) res_nil) (by kernel_rfl)
noncomputable def pattern_over_fn (call : CallF) (n : Nat) : FnT := fun args h => match args with
 | [x0, x1] => obind (avInt .i64 x0) fun t0 => pattern_over call n t0 x1 h
 | _ => none
set_option maxRecDepth 100000 in
theorem pattern_over_fn_eq (call : CallF) (n : Nat) (t0 : Int) (t1 : AV) (h : AHeap) : pattern_over_fn call n [.int .i64 t0, t1] h = pattern_over call n t0 t1 h :=
 (Eq.trans (obind_eq (fun t0 => pattern_over call n t0 t1 h) (avInt_int .i64 t0)) rfl)
theorem pattern_over_holds {call : CallF} (hc : SaysAll Pg call) (n : Nat) : Holds Pg 76 (pattern_over_fn call n) := by
 intro args h r h2 e
 unfold pattern_over_fn at e
 split at e
 ·replace e := oS e; obtain ⟨t0, c0, e⟩ := e; have c0 := avInt_some c0; subst c0
  exact pattern_over_ok hc e
 ·cases e
noncomputable def pattern_inRow (call : CallF) (_ : Nat) (t0 : AV) (h : AHeap) : R :=
 lett (newH h 41 [.int .i64 0, .int .u64 0, .int .u64 0, .int .u64 0, .int .u64 0, .nsl]) fun h_2 =>
 obind (lenL t0) fun t4 =>
 lett ((t4 : Int) == 0) fun (t6 : Bool) =>
 ifB t6
 (
  obind (stRow h_2 6 ([.int .i64 1, .int .u64 0, .int .u64 0, .int .u64 0, .int .u64 0, .nsl] : List AV) (newP h)) fun h_11 =>
  obind (ldRow h_11 6 (newP h)) fun w2 =>
  some (.ret (.agg w2), h_11))
 (
  lett ((t4 : Int) == 1) fun (t9 : Bool) =>
  ifB t9
  (
   obind (idxP 6 t0 0) fun t11 =>
   obind (ldRow h_2 6 t11) fun t12 =>
   obind (stRow h_2 6 t12 (newP h)) fun h_19 =>
   obind (ldRow h_19 6 (newP h)) fun w2_22 =>
   some (.ret (.agg w2_22), h_19))
  (
   callN (call 76 [.int .i64 3, t0] h_2) fun r14 h_24 =>
   obind (avAgg r14) fun t14 =>
   obind (stRow h_24 6 t14 (newP h)) fun h_27 =>
   obind (ldRow h_27 6 (newP h)) fun w2_30 =>
   some (.ret (.agg w2_30), h_27)))
theorem pattern_inRow_ok {call : CallF} (hc : SaysAll Pg call) {n : Nat} {t0 : AV} {h : AHeap} {rR : ARes} {hR : AHeap} (z : pattern_inRow call n t0 h = some (rR, hR)) : Says Pg 75 [t0] h rR hR := by
 unfold pattern_inRow at z
 refine says_of (fn := Try.f75) Try.func75 (c := codeOf Try.f75) (by kernel_rfl) (by kernel_rfl) (fun w0 m0 => ?_)
 refine W.weaken (l' := [(0, t0)]) (Fr.c Fr.n) ?_
 refine W.s (fun _ n1 _ _ _ => ?_)
 refine W.r ?_
 replace z := lS z; obtain ⟨h_2, e3, z⟩ := z
 refine WL.val (d := (some 2)) (v := (newP h)) (h' := h_2) (by kernel_rfl) (by kernel_rfl) (val_ofH e3 (by kernel_rfl)) ?_
 refine WL.n ?_
 refine Go.weaken (l' := [(0, t0), (2, newP h)]) (Fr.c (Fr.c Fr.n)) ?_
 refine n1 ?_
 refine W.s (fun _ n4 _ q4 _ => ?_)
 refine W.s (fun _ n5 _ _ _ => ?_)
 refine W.r ?_
 refine WL.a (some 3) t0 h_2 ?_
 replace z := oS z; obtain ⟨t4, e6, z⟩ := z
 refine WL.b (some 4) (.int .i64 t4) h_2 (len_row (P := Pg) (h := h_2) (t := 39) (e' := 41) (by kernel_rfl) e6) ?_
 refine WL.n ?_
 refine Go.weaken (l' := [(0, t0), (2, newP h), (4, .int .i64 t4)]) (Fr.c (Fr.c (Fr.c Fr.n))) ?_
 refine n5 ?_
 refine W.blockK (by kernel_rfl) (fun K7 n7 s7 o7 q7 p7 => ?_)
 refine W.s (fun _ n8 _ _ _ => ?_)
 refine W.r ?_
 replace z := lS z; obtain ⟨t6, e9, z⟩ := z
 refine WL.val (d := (some 6)) (v := .bool t6) (h' := h_2) (by kernel_rfl) (by kernel_rfl) (val_of AV.bool e9 (by kernel_rfl)) ?_
 refine WL.a (some 5) (.bool t6) h_2 ?_
 refine WL.n ?_
 refine Go.weaken (l' := [(0, t0), (2, newP h), (4, .int .i64 t4), (5, .bool t6)]) (Fr.c (Fr.c (Fr.c (Fr.c Fr.n)))) ?_
 refine n8 ?_
 cases t6 with
 | true =>
  replace z := ifB_t z
  refine W.t ?_
  refine W.s (fun _ n10 _ _ _ => ?_)
  refine W.r ?_
  refine WL.a (some 7) (.agg ([.int .i64 1, .int .u64 0, .int .u64 0, .int .u64 0, .int .u64 0, .nsl] : List AV)) h_2 ?_
  replace z := oS z; obtain ⟨h_11, e12, z⟩ := z
  refine WL.e h_11 (store_row (P := Pg) (h := h_2) (t := 41) (v := (.agg ([.int .i64 1, .int .u64 0, .int .u64 0, .int .u64 0, .int .u64 0, .nsl] : List AV))) (by kernel_rfl) (by kernel_rfl) e12) ?_
  refine WL.n ?_
  refine Go.weaken (l' := [(2, newP h)]) (Fr.c Fr.n) ?_
  refine n10 ?_
  refine W.ret (by kernel_rfl) ?_
  refine q7 ?_
  refine q4 ?_
  replace z := oS z; obtain ⟨w2, e13, z⟩ := z
  obtain ⟨z, hF2⟩ := ret_inj z; subst z; subst hF2
  exact leave_of (rs := [.cell 2 41]) (vs := [.agg w2]) (by kernel_rfl) (res_cell (by kernel_rfl) (load_row (P := Pg) (h := h_11) (t := 41) (by kernel_rfl) (by kernel_rfl) e13) res_nil) (by kernel_rfl)
 | false =>
  replace z := ifB_f z
  refine W.f ?_
  refine W.s (fun _ n14 _ _ _ => ?_)
  refine W.r ?_
  replace z := lS z; obtain ⟨t9, e15, z⟩ := z
  refine WL.val (d := (some 9)) (v := .bool t9) (h' := h_2) (by kernel_rfl) (by kernel_rfl) (val_of AV.bool e15 (by kernel_rfl)) ?_
  refine WL.a (some 8) (.bool t9) h_2 ?_
  refine WL.n ?_
  refine Go.weaken (l' := [(0, t0), (2, newP h), (8, .bool t9)]) (Fr.c (Fr.c (Fr.c Fr.n))) ?_
  refine n14 ?_
  cases t9 with
  | true =>
   replace z := ifB_t z
   refine W.t ?_
   refine W.s (fun _ n16 _ _ _ => ?_)
   refine W.r ?_
   refine WL.a (some 10) t0 h_2 ?_
   replace z := oS z; obtain ⟨t11, e17, z⟩ := z
   refine WL.b (some 11) t11 h_2 (index_row (P := Pg) (h := h_2) (t := 39) (e' := 41) (k := .i64) (by kernel_rfl) (by kernel_rfl) (by kernel_rfl) e17) ?_
   replace z := oS z; obtain ⟨t12, e18, z⟩ := z
   refine WL.b (some 12) (.agg t12) h_2 (load_row (P := Pg) (h := h_2) (t := 41) (by kernel_rfl) (by kernel_rfl) e18) ?_
   replace z := oS z; obtain ⟨h_19, e20, z⟩ := z
   refine WL.e h_19 (store_row (P := Pg) (h := h_2) (t := 41) (v := (.agg t12)) (by kernel_rfl) (by kernel_rfl) e20) ?_
   refine WL.n ?_
   refine Go.weaken (l' := [(2, newP h)]) (Fr.c Fr.n) ?_
   refine n16 ?_
   refine W.ret (by kernel_rfl) ?_
   refine q7 ?_
   refine q4 ?_
   replace z := oS z; obtain ⟨w2_22, e21, z⟩ := z
   obtain ⟨z, hF2⟩ := ret_inj z; subst z; subst hF2
   exact leave_of (rs := [.cell 2 41]) (vs := [.agg w2_22]) (by kernel_rfl) (res_cell (by kernel_rfl) (load_row (P := Pg) (h := h_19) (t := 41) (by kernel_rfl) (by kernel_rfl) e21) res_nil) (by kernel_rfl)
  | false =>
   replace z := ifB_f z
   refine W.f ?_
   refine W.skip (by kernel_rfl) ?_
   refine n7 ?_
   refine n4 ?_
   refine W.s (fun _ n23 _ _ _ => ?_)
   refine W.r ?_
   refine WL.a (some 13) t0 h_2 ?_
   replace z := callN_some z; obtain ⟨r14, h_24, e25, z⟩ := z
   replace z := oS z; obtain ⟨t14, c26, z⟩ := z
   have c26 := avAgg_some c26
   subst c26
   refine WL.c (hc.ok w0) (some 14) e25 ?_
   replace z := oS z; obtain ⟨h_27, e28, z⟩ := z
   refine WL.e h_27 (store_row (P := Pg) (h := h_24) (t := 41) (v := (.agg t14)) (by kernel_rfl) (by kernel_rfl) e28) ?_
   refine WL.n ?_
   refine Go.weaken (l' := [(2, newP h)]) (Fr.c Fr.n) ?_
   refine n23 ?_
   refine W.ret (by kernel_rfl) ?_
   replace z := oS z; obtain ⟨w2_30, e29, z⟩ := z
   obtain ⟨z, hF2⟩ := ret_inj z; subst z; subst hF2
   exact leave_of (rs := [.cell 2 41]) (vs := [.agg w2_30]) (by kernel_rfl) (res_cell (by kernel_rfl) (load_row (P := Pg) (h := h_27) (t := 41) (by kernel_rfl) (by kernel_rfl) e29) res_nil) (by kernel_rfl)
noncomputable def pattern_inRow_fn (call : CallF) (n : Nat) : FnT := fun args h => match args with
 | [x0] => pattern_inRow call n x0 h
 | _ => none
set_option maxRecDepth 100000 in
theorem pattern_inRow_fn_eq (call : CallF) (n : Nat) (t0 : AV) (h : AHeap) : pattern_inRow_fn call n [t0] h = pattern_inRow call n t0 h :=
 rfl
theorem pattern_inRow_holds {call : CallF} (hc : SaysAll Pg call) (n : Nat) : Holds Pg 75 (pattern_inRow_fn call n) := by
 intro args h r h2 e
 unfold pattern_inRow_fn at e
 split at e
 ·exact pattern_inRow_ok hc e
 ·cases e
set_option maxHeartbeats 4000000
set_option maxRecDepth 20000
noncomputable def ref09_bad (_ : CallF) (_ : Nat) (t0 : Int) (h : AHeap) : R :=
 lett (newH h 27 [.int .i64 0, .int .i64 0]) fun h_2 =>
 obind (stRow h_2 2 ([.int .i64 6, .int .i64 t0] : List AV) (newP h)) fun h_5 =>
 obind (ldRow h_5 2 (newP h)) fun w2 =>
 some (.ret (.agg w2), h_5)
theorem ref09_bad_ok {call : CallF} (_ : SaysAll Pg call) {n : Nat} {t0 : Int} {h : AHeap} {rR : ARes} {hR : AHeap} (z : ref09_bad call n t0 h = some (rR, hR)) : Says Pg 34 [.int .i64 t0] h rR hR := by
 unfold ref09_bad at z
 refine says_of (fn := Try.f34) Try.func34 (c := codeOf Try.f34) (by kernel_rfl) (by kernel_rfl) (fun w0 m0 => ?_)
 refine W.weaken (l' := [(0, .int .i64 t0)]) (Fr.c Fr.n) ?_
 refine W.s (fun _ n1 _ _ _ => ?_)
 refine W.r ?_
 replace z := lS z; obtain ⟨h_2, e3, z⟩ := z
 refine WL.val (d := (some 2)) (v := (newP h)) (h' := h_2) (by kernel_rfl) (by kernel_rfl) (val_ofH e3 (by kernel_rfl)) ?_
 refine WL.n ?_
 refine Go.weaken (l' := [(0, .int .i64 t0), (2, newP h)]) (Fr.c (Fr.c Fr.n)) ?_
 refine n1 ?_
 refine W.s (fun _ n4 _ _ _ => ?_)
 refine W.r ?_
 refine WL.a (some 3) (.int .i64 t0) h_2 ?_
 refine WL.a (some 4) (.agg ([.int .i64 6, .int .i64 t0] : List AV)) h_2 ?_
 replace z := oS z; obtain ⟨h_5, e6, z⟩ := z
 refine WL.e h_5 (store_row (P := Pg) (h := h_2) (t := 27) (v := (.agg ([.int .i64 6, .int .i64 t0] : List AV))) (by kernel_rfl) (by kernel_rfl) e6) ?_
 refine WL.n ?_
 refine Go.weaken (l' := [(2, newP h)]) (Fr.c Fr.n) ?_
 refine n4 ?_
 refine W.ret (by kernel_rfl) ?_
 replace z := oS z; obtain ⟨w2, e7, z⟩ := z
 obtain ⟨z, hF2⟩ := ret_inj z; subst z; subst hF2
 exact leave_of (rs := [.cell 2 27]) (vs := [.agg w2]) (by kernel_rfl) (res_cell (by kernel_rfl) (load_row (P := Pg) (h := h_5) (t := 27) (by kernel_rfl) (by kernel_rfl) e7) res_nil) (by kernel_rfl)
noncomputable def ref09_bad_fn (call : CallF) (n : Nat) : FnT := fun args h => match args with
 | [x0] => obind (avInt .i64 x0) fun t0 => ref09_bad call n t0 h
 | _ => none
set_option maxRecDepth 100000 in
theorem ref09_bad_fn_eq (call : CallF) (n : Nat) (t0 : Int) (h : AHeap) : ref09_bad_fn call n [.int .i64 t0] h = ref09_bad call n t0 h :=
 (Eq.trans (obind_eq (fun t0 => ref09_bad call n t0 h) (avInt_int .i64 t0)) rfl)
theorem ref09_bad_holds {call : CallF} (hc : SaysAll Pg call) (n : Nat) : Holds Pg 34 (ref09_bad_fn call n) := by
 intro args h r h2 e
 unfold ref09_bad_fn at e
 split at e
 ·replace e := oS e; obtain ⟨t0, c0, e⟩ := e; have c0 := avInt_some c0; subst c0
  exact ref09_bad_ok hc e
 ·cases e
end Go.Proofs.Yteibdplpbcobbaa
