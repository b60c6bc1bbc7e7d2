/- Deferred calls: what they come to, and functions that end by one. -/
import Derived.Test.YtpnccmlajhhpdaaAbs25
namespace Go.Proofs.Ytpnccmlajhhpdaa.Abs
noncomputable section
open Go.RowKit

def callKd (x : R) (kp : AV → AHeap → R) (k : AV → AHeap → R) : R := match x with
  | some (.ret v, h) => k v h
  | some (.panic v, h) => kp v h
  | none => none
theorem callKd_ret (v : AV) (h : AHeap) (kp k : AV → AHeap → R) : callKd (some (.ret v, h)) kp k = k v h := rfl
theorem callKd_panic (v : AV) (h : AHeap) (kp k : AV → AHeap → R) : callKd (some (.panic v, h)) kp k = kp v h := rfl
theorem callKd_some {x : R} {kp k : AV → AHeap → R} {r : ARes × AHeap} (h : callKd x kp k = some r) : (∃ v h', x = some (.ret v, h') ∧ k v h' = some r) ∨ ∃ v h', x = some (.panic v, h') ∧ kp v h' = some r := by
  unfold callKd at h
  split at h
  · exact .inl ⟨_, _, rfl, h⟩
  · exact .inr ⟨_, _, rfl, h⟩
  · cases h
/-- a deferred call, with what panics as it comes: what panics behind it -/
def DSays (P : Program) (f : FuncId) (args : List AV) (u : Option AV) (h : AHeap) (u' : Option AV) (h' : AHeap) : Prop :=
  ∀ (w0 : Base) (m : Map) (w : World) (args' : List Value) (mode : FrameMode), RelL m args args' → RelU m u mode → Fits w0 m h w →
    CallsD P f ⟨args'⟩ mode w fun e mode' w' => (∃ v, e = .returned v) ∧ ∃ m', Ext m m' ∧ Fits w0 m' h' w' ∧ RelU m' u' (settle mode')
def DFin (w0 : Base) (m0 : Map) (h' : AHeap) : Exit → Act → World → Prop
  | .normal, act, w => act.defers = [] ∧ ∃ m', Ext m0 m' ∧ Fits w0 m' h' w
  | .ret, act, w => act.defers = [] ∧ ∃ m', Ext m0 m' ∧ Fits w0 m' h' w
  | _, _, _ => False

theorem kind_seq {c : Code} (hc : Code.kind c = 1) : ∃ x y, c = .seq x y := by
  cases c <;> first | exact ⟨_, _, rfl⟩ | (simp [Code.kind] at hc; done) | (rename_i d; cases d <;> simp [Code.kind] at hc)
theorem kind_region {c : Code} (hc : Code.kind c = 7) : ∃ id ops, c = .region id ops false := by
  cases c with
  | region id ops d => cases d with
    | false => exact ⟨_, _, rfl⟩
    | true => simp [Code.kind] at hc
  | _ => simp [Code.kind] at hc
/-- how a function ends behind its deferred call -/
def endsAs (P : Program) (fn : Func) (l : Fr) (h1 : AHeap) (r : ARes) (h' : AHeap) : Option AV → Prop
  | none => retA h1 (resGs P l.get h1 fn.results.toList) = some (r, h')
  | some v => r = .panic v ∧ h' = h1

section
variable {P : Program} {w0 : Base} {m0 : Map} {N : Nat} {l l' : Fr} {ds : DefT} {h h' h1 : AHeap} {r : ARes} {u u' : Option AV}
theorem Go.dleave : Go w0 m0 N (DFin w0 m0 h .normal) l [] h := fun m _ _ he ha F => ⟨ha.defers.nil_eq, m, he, F⟩
theorem Go.dleaveR : Go w0 m0 N (DFin w0 m0 h .ret) l [] h := fun m _ _ he ha F => ⟨ha.defers.nil_eq, m, he, F⟩
theorem dsays_of {f : FuncId} {fn : Func} {args : List AV} {c : Code} (hf : P.funcs[f]? = some fn) (hb : fn.body = some c) (hlen : Nat.ble args.length fn.ntmps = true) (hk : Code.kind c = 1) (hk2 : Code.kind (Code.p1 c) = 7)
    (hok : okOps fn.ntmps (Code.ops (Code.p1 c)).toList = true) (hres : fn.results = #[]) (hd : dOps P (Code.ops (Code.p1 c)) (Code.ops (Code.p1 c)).toList ⟨(argsFr 0 args).tree, []⟩ u h = some (⟨l.tree, []⟩, u', h1))
    (hw : ∀ w0 m0, W P w0 m0 fn.ntmps (Code.p2 c) (DFin w0 m0 h') l [] h1) : DSays P f args u h u' h' := by
  intro w0 m w args' mode ha hu F
  have hlen := Nat.le_of_ble_eq_true hlen
  obtain ⟨x, rest, rfl⟩ := kind_seq hk
  obtain ⟨id, ops, rfl⟩ := kind_region hk2
  simp only [Code.p1, Code.ops] at hok hd
  refine callsD_of_wpS hf hb ?_
  intro c₀ cs hmode
  refine wpS_seq (wpS_region ?_)
  have hc0 : c₀ :: cs = { c₀ with mode := mode } :: cs := by subst hmode; rfl
  have hl := ha.length
  have hra : RelAct m fn.ntmps ⟨(argsFr 0 args).tree, []⟩ { tmps := (⟨args'⟩ : Array Value) ++ Array.replicate (fn.ntmps - (⟨args'⟩ : Array Value).size) undef, defers := [] } := {
    size := by simp; omega
    tmps := fun t v hv => by
      have hv : (argsFr 0 args).tree.get t = some v := hv
      rw [Fr.get_tree] at hv
      obtain ⟨_, hv⟩ := argsFr_get _ _ _ _ hv
      rw [Nat.sub_zero] at hv
      obtain ⟨y, hy, hr⟩ := ha.get t v hv
      have ht : t < args'.length := (List.getElem?_eq_some_iff.1 hy).1
      refine ⟨y, ?_, hr⟩
      simp only
      rw [Array.getElem?_append_left (by simpa using ht)]
      simpa using hy
    defers := .nil }
  rw [hc0, List.range_eq_range', ← Array.length_toList]
  refine dOps_ok (m0 := m) (N := fn.ntmps) (a1 := ⟨l.tree, []⟩) (u1 := u') (h1 := h1) ?_ ops.toList 0 (by simp) (okOps_mem _ hok) m _ _ u mode h w (Ext.refl m) hra (.of hu) F hd
  intro m1 act1 mode1 w1 hx1 hra1 hu1 F1
  simp only [Exit.thenS]
  refine wpS_of_wp ?_
  refine wp_mono (hw w0 m1 m1 act1 w1 (Ext.refl m1) hra1 F1) ?_
  have fin : ∀ (act2 : Act) (w2 : World), (act2.defers = [] ∧ ∃ m', Ext m1 m' ∧ Fits w0 m' h' w2) → act2.defers = [] ∧ ∃ u2, { c₀ with mode := mode1 } :: cs = { c₀ with mode := u2 } :: cs ∧ ∃ v, (results fn act2.tmps).run P w2 = .ok v w2 ∧ (∃ v_1, Ending.returned v = .returned v_1) ∧ ∃ m', Ext m m' ∧ Fits w0 m' h' w2 ∧ RelU m' u' (settle u2) := by
    rintro act2 w2 ⟨hdf, m2, hx2, F2⟩
    have hrun : (results fn act2.tmps).run P w2 = .ok (.tuple #[]) w2 := by
      unfold results
      rw [hres]
      simp
    exact ⟨hdf, mode1, rfl, _, hrun, ⟨_, rfl⟩, m2, hx1.trans hx2, F2, (hu1.mono hx2.le).settle⟩
  rintro e' act2 w2 hq
  cases e' with
  | normal => exact fin act2 w2 hq
  | ret => exact fin act2 w2 hq
  | exit id => cases hq
  | goto l => cases hq
  | panic ch => cases hq
  | outgrown => cases hq

/-- one deferred call, at a function's end -/
theorem leaves_one {fn : Func} {f : FuncId} {args cap : List AV} {m : Map} {act : Act} {w : World} {ds' : List Deferred} {mode : FrameMode} (hb : hasBody P f = true) (hds : RelD m [(f, args, cap)] ds') (hu : RelU m u mode) (hx0 : Ext m0 m) (ha : ∀ t, Slot m ⟨l.tree, []⟩ act t) (F : Fits w0 m h w)
    (hd : DSays P f (args ++ cap) u h u' h1)
    (hr : endsAs P fn l h1 r h' u') (hmk : isMrk cap = false := by rfl) : Leaves P fn act.tmps (RetOK w0 m0 h' r) ds' mode w := by
  cases hds with
  | mark _ _ => cases hmk
  | @cons _ _ _ args' cap' _ l2 k1 k2 k3 =>
  have := k3.nil_eq
  subst this
  refine ⟨?_, .func f, ⟨cap'⟩, f, ⟨args' ++ cap'⟩, rfl, ?_, CallsD.mono (hd w0 m w (args' ++ cap') mode (k1.append k2) hu F) ?_⟩
  · cases hu <;> simp
  · simp only [invoke]
    have : (⟨args'⟩ ++ ⟨cap'⟩ : Array Value) = ⟨args' ++ cap'⟩ := by simp
    rw [this]
    exact hasBody_ok hb _ w
  · rintro e u2 w' ⟨⟨v, rfl⟩, m', hx, F', hu'⟩
    show Leaves P fn act.tmps (RetOK w0 m0 h' r) [] (settle u2) w'
    generalize hs : settle u2 = md at hu' ⊢
    cases hu' with
    | ret =>
      have hr : retA h1 (resGs P l.get h1 fn.results.toList) = some (r, h') := hr
      have hr : retA h1 (resAll P ⟨l.tree, []⟩ h1 fn.results.toList) = some (r, h') := by
        rw [← resGs_eq]
        show retA h1 (resGs P l.tree.get h1 _) = _
        rw [Fr.fget_tree]
        exact hr
      obtain ⟨v, v', rfl, rfl, hrun, hv⟩ := results_ok (fun t => (ha t).mono hx.le) F' hr
      exact ⟨v', hrun, m', hx0.trans hx, F', v', rfl, hv⟩
    | @panic v v' hv =>
      obtain ⟨rfl, rfl⟩ := hr
      exact ⟨m', hx0.trans hx, F', v', rfl, hv⟩
theorem ends_of {fn : Func} {rs : List ResultVar} {vs : List AV} {v : AV} (hrs : fn.results.toList = rs) (hv : resGs P l.get h rs = some vs) (hr : retA h (some vs) = some (.ret v, h)) : endsAs P fn l h (.ret v) h none := by
  show retA h (resGs P l.get h fn.results.toList) = _
  rw [hrs, hv, hr]
theorem Go.leaveD {fn : Func} {f : FuncId} {args cap : List AV} (hb : hasBody P f = true) (hd : DSays P f (args ++ cap) none h u' h1)
    (hr : endsAs P fn l h1 r h' u') (hmk : isMrk cap = false := by rfl) : Go w0 m0 N (Fin P fn w0 m0 r h' .ret) l [(f, args, cap)] h := fun _ _ _ he ha F =>
  leaves_one (l := l) hb ha.defers .ret he ha.tmps F hd hr hmk
theorem Pan.leaveD {fn : Func} {f : FuncId} {args cap : List AV} {v : AV} (hb : hasBody P f = true) (hd : DSays P f (args ++ cap) (some v) h u' h1)
    (hr : endsAs P fn l h1 r h' u') (hmk : isMrk cap = false := by rfl) : Pan w0 m0 N (Fin P fn w0 m0 r h') l [(f, args, cap)] v h := fun _ _ he hv _ _ ha F =>
  leaves_one (l := l) hb ha.defers (.panic hv) he ha.tmps F hd hr hmk
/-- it defers a call -/
theorem WL.dfr {Q : Exit → Act → World → Prop} {ops : Array Oper} {i : Nat} {d : Option Nat} {f : FuncId} {args cap : List AV} (hd : dstN N ops i = some d) (hw : wantAt ops l.get i = some true) (hop : opAt P l.eval ops i h = some (.defer f args cap, h'))
    (hk : WL P w0 m0 N ops (i + 1) Q (l.put d (.tup [])) ((f, args, cap) :: ds) h') : WL P w0 m0 N ops i Q l ds h := by
  obtain ⟨o, ho, hok, rfl⟩ := dstN_ok hd
  refine WL.step (v := .tup []) (d := o.dst) (ds' := (f, args, cap) :: ds) (call := noneCall) ho hok noneCall_ok ?_ hk
  have hw : wantedT ops l.get o.guard = some true := by simpa [wantAt, ho] using hw
  have hop : opA P l.eval o h = some (.defer f args cap, h') := by simpa [opAt, ho] using hop
  simp only [stepA, Fr.fget_tree, hw, Fr.eval_tree, hop, stepOut, stepPut]
  rw [← Fr.put_tree]
end
end
end Go.Proofs.Ytpnccmlajhhpdaa.Abs
