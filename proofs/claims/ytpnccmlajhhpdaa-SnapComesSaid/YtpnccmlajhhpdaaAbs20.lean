/- Rules by which code is walked, frames as lists of slots. -/
import Derived.Test.YtpnccmlajhhpdaaAbs19
namespace Go.Proofs.Ytpnccmlajhhpdaa.Abs
noncomputable section
open Go.RowKit

abbrev Fr := List (Nat × AV)
def Fr.get : Fr → Nat → Option AV
  | [], _ => none
  | (i, v) :: l, t => match Nat.beq i t with
    | true => some v
    | false => Fr.get l t
def Fr.eval (l : Fr) : Operand → Option AV
  | .tmp t => l.get t
  | .const v => ofVal v
  | .global g => some (.gptr g 0)
  | .func f => some (.fn f [] [])
def Fr.tree : Fr → T AV
  | [] => .e
  | (i, v) :: l => (Fr.tree l).set i v
theorem Fr.get_tree : ∀ (l : Fr) (t : Nat), l.tree.get t = l.get t
  | [], t => T.get_e t
  | (i, v) :: l, t => by
    unfold Fr.get
    split
    · rename_i h
      have := Nat.eq_of_beq_eq_true h
      subst this
      exact T.get_set_same _ _ _
    · rename_i h
      have : i ≠ t := fun e => by subst e; rw [Nat.beq_refl] at h; cases h
      rw [Fr.tree, T.get_set_other _ _ this]
      exact Fr.get_tree l t
theorem Fr.eval_tree (l : Fr) (ds : List (FuncId × List AV × List AV)) : (⟨l.tree, ds⟩ : AAct).eval = l.eval := by
  funext x
  cases x with
  | tmp t => exact l.get_tree t
  | _ => rfl
theorem Fr.fget_tree (l : Fr) : l.tree.get = l.get := by funext t; exact l.get_tree t

/-- one frame has what another one has -/
def Fr.sub (l l' : Fr) : Prop := ∀ t v, l'.get t = some v → l.get t = some v
theorem Fr.sub_nil (l : Fr) : l.sub [] := fun _ _ h => by cases h
theorem Fr.sub_cons {l l' : Fr} {t : Nat} {v : AV} (h : l.get t = some v) (k : l.sub l') : l.sub ((t, v) :: l') := fun u x hx => by
  unfold Fr.get at hx
  split at hx
  · rename_i e
    have := Nat.eq_of_beq_eq_true e
    subst this
    simp only [Option.some.injEq] at hx; subst hx; exact h
  · exact k u x hx

abbrev DefT := List (FuncId × List AV × List AV)

section
variable (P : Program) (w0 : Base) (m0 : Map) (N : Nat)
/-- with this frame and this heap -/
def Go (Q : Act → World → Prop) (l : Fr) (ds : DefT) (h : AHeap) : Prop := ∀ (m : Map) (act : Act) (w : World), Ext m0 m → RelAct m N ⟨l.tree, ds⟩ act → Fits w0 m h w → Q act w
def W (c : Code) (Q : Exit → Act → World → Prop) (l : Fr) (ds : DefT) (h : AHeap) : Prop := Go w0 m0 N (c.wp P Q) l ds h
def WL (ops : Array Oper) (i : Nat) (Q : Exit → Act → World → Prop) (l : Fr) (ds : DefT) (h : AHeap) : Prop := Go w0 m0 N (wpList P ops Q (ops.toList.drop i)) l ds h
/-- within a loop -/
def InL (c : Code) (Q : Exit → Act → World → Prop) (act : Act) (w : World) : Prop := ∀ (b : Frame) (k : List Item) (cs : List Frame), ∃ e a' w', Q e a' w' ∧ Arrives P (lone (b.at act (.code c :: .inLoop c :: k)) cs w) b k cs e a' w'
end

section
variable {P : Program} {w0 : Base} {m0 : Map} {N : Nat} {l l' : Fr} {ds : DefT} {h h' : AHeap} {Q : Exit → Act → World → Prop} {K : Act → World → Prop}

theorem RelAct.weaken {m : Map} {act : Act} (hs : l.sub l') (hr : RelAct m N ⟨l.tree, ds⟩ act) : RelAct m N ⟨l'.tree, ds⟩ act where
  size := hr.size
  tmps t := fun v hv => hr.tmps t v (by
    have hv : l'.tree.get t = some v := hv
    rw [Fr.get_tree] at hv
    show l.tree.get t = some v
    rw [Fr.get_tree]
    exact hs t v hv)
  defers := hr.defers
theorem Go.weaken (hs : l.sub l') (hk : Go w0 m0 N K l' ds h) : Go w0 m0 N K l ds h := fun m act w he ha F => hk m act w he (ha.weaken hs) F
theorem Go.mono {K' : Act → World → Prop} (hk : Go w0 m0 N K l ds h) (hq : ∀ a w, K a w → K' a w) : Go w0 m0 N K' l ds h := fun m act w he ha F => hq _ _ (hk m act w he ha F)
theorem W.weaken {c : Code} (hs : l.sub l') (hk : W P w0 m0 N c Q l' ds h) : W P w0 m0 N c Q l ds h := Go.weaken hs hk
theorem WL.weaken {ops : Array Oper} {i : Nat} (hs : l.sub l') (hk : WL P w0 m0 N ops i Q l' ds h) : WL P w0 m0 N ops i Q l ds h := Go.weaken hs hk

/-! ### code, part by part (c is named, its parts are asked for) -/
def Code.p1 : Code → Code
  | .seq x _ => x
  | .cond _ x _ => x
  | .block _ x => x
  | .loop x => x
  | .scope x => x
  | c => c
def Code.p2 : Code → Code
  | .seq _ y => y
  | .cond _ _ y => y
  | c => c
def Code.opd : Code → Operand
  | .cond c _ _ => c
  | _ => .tmp 0
def Code.num : Code → Nat
  | .block id _ => id
  | .exit id => id
  | _ => 0
def Code.ops : Code → Array Oper
  | .region _ ops _ => ops
  | _ => #[]
/-- 0: skip, 1: seq, 2: cond, 3: block, 4: loop, 5: exit, 6: ret, 7: region, 8: drawn region -/
def Code.kind : Code → Nat
  | .skip => 0
  | .seq _ _ => 1
  | .cond _ _ _ => 2
  | .block _ _ => 3
  | .loop _ => 4
  | .exit _ => 5
  | .ret => 6
  | .region _ _ false => 7
  | .region _ _ true => 8
  | _ => 9

theorem W.skip {c : Code} (hc : Code.kind c = 0) (hk : Go w0 m0 N (Q .normal) l ds h) : W P w0 m0 N c Q l ds h := by
  cases c <;> first | (exact fun m act w he ha F => wp_skip (hk m act w he ha F)) | (simp [Code.kind] at hc; done) | (rename_i d; cases d <;> simp [Code.kind] at hc)
theorem W.seq {c : Code} (hc : Code.kind c = 1) (hk : W P w0 m0 N (Code.p1 c) (Exit.then ((Code.p2 c).wp P Q) Q) l ds h) : W P w0 m0 N c Q l ds h := by
  cases c <;> first | (exact fun m act w he ha F => wp_seq (hk m act w he ha F)) | (simp [Code.kind] at hc; done) | (rename_i d; cases d <;> simp [Code.kind] at hc)
theorem W.cond_true {c : Code} (hc : Code.kind c = 2) (hv : l.eval (Code.opd c) = some (.bool true)) (hk : W P w0 m0 N (Code.p1 c) Q l ds h) : W P w0 m0 N c Q l ds h := by
  cases c <;> first | (exact fun m act w he ha F => wp_cond_true (rel_bool (eval_ok (a := ⟨l.tree, ds⟩) (fun t _ => ha.tmps t) _ (by rw [Fr.eval_tree]; exact hv))) (hk m act w he ha F)) | (simp [Code.kind] at hc; done) | (rename_i d; cases d <;> simp [Code.kind] at hc)
theorem W.cond_false {c : Code} (hc : Code.kind c = 2) (hv : l.eval (Code.opd c) = some (.bool false)) (hk : W P w0 m0 N (Code.p2 c) Q l ds h) : W P w0 m0 N c Q l ds h := by
  cases c <;> first | (exact fun m act w he ha F => wp_cond_false (rel_bool (eval_ok (a := ⟨l.tree, ds⟩) (fun t _ => ha.tmps t) _ (by rw [Fr.eval_tree]; exact hv))) (hk m act w he ha F)) | (simp [Code.kind] at hc; done) | (rename_i d; cases d <;> simp [Code.kind] at hc)
theorem W.block {c : Code} (hc : Code.kind c = 3) (hk : W P w0 m0 N (Code.p1 c) (Exit.inBlock (Code.num c) Q) l ds h) : W P w0 m0 N c Q l ds h := by
  cases c <;> first | (exact fun m act w he ha F => wp_block (hk m act w he ha F)) | (simp [Code.kind] at hc; done) | (rename_i d; cases d <;> simp [Code.kind] at hc)
theorem W.exit {c : Code} (hc : Code.kind c = 5) (hk : Go w0 m0 N (Q (.exit (Code.num c))) l ds h) : W P w0 m0 N c Q l ds h := by
  cases c <;> first | (exact fun m act w he ha F => wp_exit (hk m act w he ha F)) | (simp [Code.kind] at hc; done) | (rename_i d; cases d <;> simp [Code.kind] at hc)
theorem W.ret {c : Code} (hc : Code.kind c = 6) (hk : Go w0 m0 N (Q .ret) l ds h) : W P w0 m0 N c Q l ds h := by
  cases c <;> first | (exact fun m act w he ha F => wp_ret (hk m act w he ha F)) | (simp [Code.kind] at hc; done) | (rename_i d; cases d <;> simp [Code.kind] at hc)

theorem arrives_loop {c : Code} {e : Exit} {m : Machine} {b : Frame} {k : List Item} {cs : List Frame} {a : Act} {w : World} (hne : e ≠ .normal) (harr : Arrives P m b (.inLoop c :: k) cs e a w) : Arrives P m b k cs e a w :=
  .pass (x := .inLoop c) rfl (fun _ _ => .inl hne) harr
theorem InL.round {c : Code} {act : Act} {w : World} (hk : c.wp P (Exit.then (InL P c Q) Q) act w) : InL P c Q act w := by
  intro b k cs
  obtain ⟨e1, a1, w1, hq, harr⟩ := hk b (.inLoop c :: k) cs
  cases e1 with
  | normal =>
    obtain ⟨e3, a3, w3, hq3, harr3⟩ := hq b k cs
    exact ⟨e3, a3, w3, hq3, .of_steps (Steps.trans harr (.one step_inLoop)) harr3⟩
  | exit id => exact ⟨_, a1, w1, hq, arrives_loop (by simp) harr⟩
  | goto l => exact ⟨_, a1, w1, hq, arrives_loop (by simp) harr⟩
  | ret => exact ⟨_, a1, w1, hq, arrives_loop (by simp) harr⟩
  | panic ch => exact ⟨_, a1, w1, hq, arrives_loop (by simp) harr⟩
  | outgrown => exact ⟨_, a1, w1, hq, arrives_loop (by simp) harr⟩
theorem kind_loop {c : Code} (hc : Code.kind c = 4) : ∃ x, c = .loop x := by
  cases c <;> first | exact ⟨_, rfl⟩ | (simp [Code.kind] at hc; done) | (rename_i d; cases d <;> simp [Code.kind] at hc)
theorem W.loop {c : Code} (hc : Code.kind c = 4) (hk : Go w0 m0 N (InL P (Code.p1 c) Q) l ds h) : W P w0 m0 N c Q l ds h := by
  obtain ⟨x, rfl⟩ := kind_loop hc
  intro m act w he ha F b k cs
  obtain ⟨e, a', w', q, r⟩ := hk m act w he ha F b k cs
  exact ⟨e, a', w', q, .of_steps (.one step_loop) r⟩
theorem Go.round {c : Code} (hk : W P w0 m0 N c (Exit.then (InL P c Q) Q) l ds h) : Go w0 m0 N (InL P c Q) l ds h := fun m act w he ha F => InL.round (hk m act w he ha F)

/-! ### operations -/
theorem W.region {c : Code} (hc : Code.kind c = 7) (hk : WL P w0 m0 N (Code.ops c) 0 Q l ds h) : W P w0 m0 N c Q l ds h := by
  cases c with
  | region id ops d => cases d with
    | false => exact fun m act w he ha F => wp_region_list (hk m act w he ha F)
    | true => simp [Code.kind] at hc
  | _ => simp [Code.kind] at hc
theorem WL.nil {ops : Array Oper} {i : Nat} (hi : Nat.beq ops.size i = true) (hk : Go w0 m0 N (Q .normal) l ds h) : WL P w0 m0 N ops i Q l ds h := by
  intro m act w he ha F
  have : ops.toList.drop i = [] := by
    have := Nat.eq_of_beq_eq_true hi
    simp [← this]
  rw [this]
  exact hk m act w he ha F
def dstN (N : Nat) (ops : Array Oper) (i : Nat) : Option (Option Nat) := match ops[i]? with
  | some o => match okDst N o with
    | true => some o.dst
    | false => none
  | none => none
def opAt (P : Program) (ρ : RhoT) (ops : Array Oper) (i : Nat) (h : AHeap) : OutT := match ops[i]? with
  | some o => opA P ρ o h
  | none => none
def wantAt (ops : Array Oper) (tm : Nat → Option AV) (i : Nat) : Option Bool := match ops[i]? with
  | some o => wantedT ops tm o.guard
  | none => none
def Fr.put (l : Fr) : Option Nat → AV → Fr
  | some d, v => (d, v) :: l
  | none, _ => l
theorem Fr.put_tree (l : Fr) (d : Option Nat) (v : AV) (ds : DefT) : (⟨l.tree, ds⟩ : AAct).put d v = ⟨(l.put d v).tree, ds⟩ := by
  cases d <;> rfl
/-- the next operation -/
theorem WL.step {ops : Array Oper} {i : Nat} {o : Oper} {call : CallF} (ho : ops[i]? = some o) (hd : okDst N o = true) (hc : CallOK P w0 call) {d : Option Nat} {v : AV} {ds' : DefT}
    (hst : stepA P call ops o ⟨l.tree, ds⟩ h = some (.go ⟨(l.put d v).tree, ds'⟩ h')) (hk : WL P w0 m0 N ops (i + 1) Q (l.put d v) ds' h') : WL P w0 m0 N ops i Q l ds h := by
  intro m act w he ha F
  have hl : i < ops.toList.length := by
    rcases Array.getElem?_eq_some_iff.1 ho with ⟨h1, _⟩
    simpa using h1
  have hdrop : ops.toList.drop i = o :: ops.toList.drop (i + 1) := by
    rw [List.drop_eq_getElem_cons hl]
    congr 1
    rcases Array.getElem?_eq_some_iff.1 ho with ⟨h1, h2⟩
    simpa using h2
  rw [hdrop, wpList]
  refine step_ok hc ha F hd hst (fun a' h2 e m' act' w' he' ha' F' => ?_) (fun v h2 e => by cases e)
  simp only [AStep.go.injEq] at e
  obtain ⟨rfl, rfl⟩ := e
  exact hk m' act' w' (he.trans he') ha' F'
theorem WL.panic_ {ops : Array Oper} {i : Nat} {o : Oper} {call : CallF} (ho : ops[i]? = some o) (hd : okDst N o = true) (hc : CallOK P w0 call) {v : AV}
    (hst : stepA P call ops o ⟨l.tree, ds⟩ h = some (.panic v h')) (hk : ∀ v' m, Ext m0 m → Rel m v v' → ∀ act w, RelAct m N ⟨l.tree, ds⟩ act → Fits w0 m h' w → Q (.panic [{ v := v', recovered := false }]) act w) : WL P w0 m0 N ops i Q l ds h := by
  intro m act w he ha F
  have hl : i < ops.toList.length := by
    rcases Array.getElem?_eq_some_iff.1 ho with ⟨h1, _⟩
    simpa using h1
  have hdrop : ops.toList.drop i = o :: ops.toList.drop (i + 1) := by
    rw [List.drop_eq_getElem_cons hl]
    congr 1
    rcases Array.getElem?_eq_some_iff.1 ho with ⟨h1, h2⟩
    simpa using h2
  rw [hdrop, wpList]
  refine step_ok hc ha F hd hst (fun a' h2 e => by cases e) (fun v2 h2 e m' w' v' he' F' hv => ?_)
  simp only [AStep.panic.injEq] at e
  obtain ⟨rfl, rfl⟩ := e
  exact hk v' m' (he.trans he') hv act w' (ha.mono he'.le) F'
theorem dstN_ok {ops : Array Oper} {i : Nat} {d : Option Nat} (hd : dstN N ops i = some d) : ∃ o, ops[i]? = some o ∧ okDst N o = true ∧ o.dst = d := by
  unfold dstN at hd
  split at hd
  · rename_i o ho
    split at hd
    · rename_i hk
      simp only [Option.some.injEq] at hd
      exact ⟨o, ho, hk, hd⟩
    · cases hd
  · cases hd
def noneCall : CallF := fun _ _ _ => none
theorem noneCall_ok : CallOK P w0 noneCall := fun _ _ _ _ _ h => by cases h
/-- it yields a value -/
theorem WL.val {ops : Array Oper} {i : Nat} {d : Option Nat} {v : AV} (hd : dstN N ops i = some d) (hw : wantAt ops l.get i = some true) (hop : opAt P l.eval ops i h = some (.val v, h'))
    (hk : WL P w0 m0 N ops (i + 1) Q (l.put d v) ds h') : WL P w0 m0 N ops i Q l ds h := by
  obtain ⟨o, ho, hok, rfl⟩ := dstN_ok hd
  refine WL.step (v := v) (d := o.dst) (ds' := ds) (call := noneCall) ho hok noneCall_ok ?_ hk
  have hw : wantedT ops l.get o.guard = some true := by simpa [wantAt, ho] using hw
  have hop : opA P l.eval o h = some (.val v, h') := by simpa [opAt, ho] using hop
  simp only [stepA, Fr.fget_tree, hw, Fr.eval_tree, hop, stepOut, stepPut, Fr.put_tree]
/-- it stores -/
theorem WL.eff {ops : Array Oper} {i : Nat} (hd : dstN N ops i = some none) (hw : wantAt ops l.get i = some true) (hop : opAt P l.eval ops i h = some (.skip, h'))
    (hk : WL P w0 m0 N ops (i + 1) Q l ds h') : WL P w0 m0 N ops i Q l ds h := by
  obtain ⟨o, ho, hok, hdn⟩ := dstN_ok hd
  refine WL.step (v := .tup []) (d := none) (ds' := ds) (call := noneCall) ho hok noneCall_ok ?_ hk
  have hw : wantedT ops l.get o.guard = some true := by simpa [wantAt, ho] using hw
  have hop : opA P l.eval o h = some (.skip, h') := by simpa [opAt, ho] using hop
  simp only [stepA, Fr.fget_tree, hw, Fr.eval_tree, hop, stepOut, stepPut, Fr.put_tree, hdn]
/-- it is not wanted -/
theorem WL.not {ops : Array Oper} {i : Nat} {d : Option Nat} (hd : dstN N ops i = some d) (hw : wantAt ops l.get i = some false)
    (hk : WL P w0 m0 N ops (i + 1) Q (l.put d (.tup [])) ds h) : WL P w0 m0 N ops i Q l ds h := by
  obtain ⟨o, ho, hok, rfl⟩ := dstN_ok hd
  refine WL.step (v := .tup []) (d := o.dst) (ds' := ds) (call := noneCall) ho hok noneCall_ok ?_ hk
  have hw : wantedT ops l.get o.guard = some false := by simpa [wantAt, ho] using hw
  simp only [stepA, Fr.fget_tree, hw, stepPut, Fr.put_tree]
/-- it calls a function, which returns -/
theorem WL.call {call : CallF} (hc : CallOK P w0 call) {ops : Array Oper} {i : Nat} {d : Option Nat} {f : FuncId} {args : List AV} {v : AV} {h1 : AHeap} (hd : dstN N ops i = some d) (hw : wantAt ops l.get i = some true) (hop : opAt P l.eval ops i h = some (.call f args, h1))
    (hcall : call f args h1 = some (.ret v, h')) (hk : WL P w0 m0 N ops (i + 1) Q (l.put d v) ds h') : WL P w0 m0 N ops i Q l ds h := by
  obtain ⟨o, ho, hok, rfl⟩ := dstN_ok hd
  refine WL.step (v := v) (d := o.dst) (ds' := ds) (call := call) ho hok hc ?_ hk
  have hw : wantedT ops l.get o.guard = some true := by simpa [wantAt, ho] using hw
  have hop : opA P l.eval o h = some (.call f args, h1) := by simpa [opAt, ho] using hop
  simp only [stepA, Fr.fget_tree, hw, Fr.eval_tree, hop, stepOut, hcall, stepRes, stepPut, Fr.put_tree]
theorem WL.callPanic {call : CallF} (hc : CallOK P w0 call) {ops : Array Oper} {i : Nat} {d : Option Nat} {f : FuncId} {args : List AV} {v : AV} {h1 : AHeap} (hd : dstN N ops i = some d) (hw : wantAt ops l.get i = some true) (hop : opAt P l.eval ops i h = some (.call f args, h1))
    (hcall : call f args h1 = some (.panic v, h')) (hk : ∀ v' m, Ext m0 m → Rel m v v' → ∀ act w, RelAct m N ⟨l.tree, ds⟩ act → Fits w0 m h' w → Q (.panic [{ v := v', recovered := false }]) act w) : WL P w0 m0 N ops i Q l ds h := by
  obtain ⟨o, ho, hok, rfl⟩ := dstN_ok hd
  refine WL.panic_ (call := call) ho hok hc ?_ hk
  have hw : wantedT ops l.get o.guard = some true := by simpa [wantAt, ho] using hw
  have hop : opA P l.eval o h = some (.call f args, h1) := by simpa [opAt, ho] using hop
  simp only [stepA, Fr.fget_tree, hw, Fr.eval_tree, hop, stepOut, hcall, stepRes]
theorem WL.pan {ops : Array Oper} {i : Nat} {d : Option Nat} {v : AV} (hd : dstN N ops i = some d) (hw : wantAt ops l.get i = some true) (hop : opAt P l.eval ops i h = some (.panic v, h'))
    (hk : ∀ v' m, Ext m0 m → Rel m v v' → ∀ act w, RelAct m N ⟨l.tree, ds⟩ act → Fits w0 m h' w → Q (.panic [{ v := v', recovered := false }]) act w) : WL P w0 m0 N ops i Q l ds h := by
  obtain ⟨o, ho, hok, rfl⟩ := dstN_ok hd
  refine WL.panic_ (call := noneCall) ho hok noneCall_ok ?_ hk
  have hw : wantedT ops l.get o.guard = some true := by simpa [wantAt, ho] using hw
  have hop : opA P l.eval o h = some (.panic v, h') := by simpa [opAt, ho] using hop
  simp only [stepA, Fr.fget_tree, hw, Fr.eval_tree, hop, stepOut]

/-! ### a region of open order -/
/-- the rest of a plan: where it comes to -/
def WD (P : Program) (w0 : Base) (m0 : Map) (N : Nat) (call : CallF) (ops : Array Oper) (plan : List Nat) (rs : List Rec) (K : Act → World → Prop) (l : Fr) (ds : DefT) (h : AHeap) : Prop :=
  ∃ (l' : Fr) (h' : AHeap), dGo P call ops plan ⟨l.tree, ds⟩ h rs = some (.normal, ⟨l'.tree, ds⟩, h') ∧ Go w0 m0 N K l' ds h'
theorem W.draw (hm : P.follows .mixedOrders = true) {call : CallF} (hc : CallOK P w0 call) {c : Code} {plan : List Nat} (hk : Code.kind c = 8) (hok : okOps N (Code.ops c).toList = true) (hp : planOf P (Code.ops c) = some plan)
    (hd : WD P w0 m0 N call (Code.ops c) plan [] (Q .normal) l ds h) : W P w0 m0 N c Q l ds h := by
  cases c with
  | region id ops d => cases d with
    | true =>
      intro m act w he ha F
      obtain ⟨l', h', hgo, hq⟩ := hd
      have hdraw : aDraw P call ops ⟨l.tree, ds⟩ h = some (.normal, ⟨l'.tree, ds⟩, h') := by
        unfold aDraw
        have hp : planOf P ops = some plan := hp
        rw [hp]
        exact hgo
      refine wp_mono (draw_ok hm hc (okOps_mem _ hok) ha F hdraw) ?_
      rintro e' act2 w2 ⟨m2, hx, ha2, F2, hex⟩
      cases hex
      exact hq m2 act2 w2 (he.trans hx) ha2 F2
    | false => simp [Code.kind] at hk
  | _ => simp [Code.kind] at hk
theorem WD.nil {call : CallF} {ops : Array Oper} {rs : List Rec} (hk : Go w0 m0 N K l ds h) : WD P w0 m0 N call ops [] rs K l ds h := ⟨l, h, rfl, hk⟩
/-- 0: goes on; 1: what is read or made is written down; 2: what was written down is looked at again -/
def kindD (P : Program) (ops : Array Oper) (i : Nat) : Nat := match ops[i]? with
  | some o => match kindX P ops i o.op with
    | 0 => 0
    | 3 => 2
    | _ => 1
  | none => 9
def recAt (P : Program) (ops : Array Oper) (i : Nat) (l : Fr) (h : AHeap) : Rec := match ops[i]? with
  | some o => ⟨i, o, h.next, boxType o.op, boxCells P ⟨l.tree, []⟩ o.op⟩
  | none => ⟨i, default, 0, 0, []⟩
theorem boxCells_ds (P : Program) (t : T AV) (ds : DefT) (o : Op) : boxCells P ⟨t, ds⟩ o = boxCells P ⟨t, []⟩ o := by
  unfold boxCells
  split
  · rfl
  · rename_i x
    have : (⟨t, ds⟩ : AAct).eval x = (⟨t, []⟩ : AAct).eval x := by cases x <;> rfl
    rw [this]
  · rfl
def recsD (k : Nat) (r : Rec) (rs : List Rec) : List Rec := match k with
  | 1 => r :: rs
  | _ => rs
theorem WD.step {call : CallF} {ops : Array Oper} {i : Nat} {plan : List Nat} {rs : List Rec} {o : Oper} {d : Option Nat} {v : AV} {k : Nat} (ho : ops[i]? = some o) (hst : stepA P call ops o ⟨l.tree, ds⟩ h = some (.go ⟨(l.put d v).tree, ds⟩ h'))
    (hkind : kindD P ops i = k) (hwant : wantAt ops l.get i = some true ∨ k ≠ 1)
    (hrec : k = 2 → allRec (recOk P ops i ⟨(l.put d v).tree, ds⟩ h') rs = true)
    (hk9 : k ≠ 9)
    (hk : WD P w0 m0 N call ops plan (recsD k (recAt P ops i l h) rs) K (l.put d v) ds h') : WD P w0 m0 N call ops (i :: plan) rs K l ds h := by
  obtain ⟨l2, h2, hgo, hq⟩ := hk
  refine ⟨l2, h2, ?_, hq⟩
  unfold dGo
  simp only [ho, hst]
  unfold kindD at hkind
  simp only [ho] at hkind
  split at hkind
  · rename_i hx
    subst hkind
    simp only [hx]
    exact hgo
  · rename_i hx
    subst hkind
    simp only [hx, hrec rfl, if_true]
    exact hgo
  · rename_i h0 h3
    subst hkind
    split
    · rename_i e; exact absurd e h0
    · rename_i e; exact absurd e h3
    · have hw : wantedT ops l.get o.guard = some true := by
        rcases hwant with hw | hw
        · simpa [wantAt, ho] using hw
        · exact absurd rfl hw
      simp only [Fr.fget_tree, hw]
      have : recAt P ops i l h = ⟨i, o, h.next, boxType o.op, boxCells P ⟨l.tree, ds⟩ o.op⟩ := by
        simp only [recAt, ho, boxCells_ds P l.tree ds]
      rw [← this]
      exact hgo
theorem WD.val {call : CallF} {ops : Array Oper} {i : Nat} {plan : List Nat} {rs : List Rec} {d : Option Nat} {v : AV} {k : Nat} (hd : dstN N ops i = some d) (hw : wantAt ops l.get i = some true) (hop : opAt P l.eval ops i h = some (.val v, h'))
    (hkind : kindD P ops i = k) (hrec : k = 2 → allRec (recOk P ops i ⟨(l.put d v).tree, ds⟩ h') rs = true) (hk9 : k ≠ 9)
    (hk : WD P w0 m0 N call ops plan (recsD k (recAt P ops i l h) rs) K (l.put d v) ds h') : WD P w0 m0 N call ops (i :: plan) rs K l ds h := by
  obtain ⟨o, ho, hok, rfl⟩ := dstN_ok hd
  refine WD.step ho ?_ hkind (.inl hw) hrec hk9 hk
  have hw : wantedT ops l.get o.guard = some true := by simpa [wantAt, ho] using hw
  have hop : opA P l.eval o h = some (.val v, h') := by simpa [opAt, ho] using hop
  simp only [stepA, Fr.fget_tree, hw, Fr.eval_tree, hop, stepOut, stepPut, Fr.put_tree]
theorem WD.eff {call : CallF} {ops : Array Oper} {i : Nat} {plan : List Nat} {rs : List Rec} {k : Nat} (hd : dstN N ops i = some none) (hw : wantAt ops l.get i = some true) (hop : opAt P l.eval ops i h = some (.skip, h'))
    (hkind : kindD P ops i = k) (hrec : k = 2 → allRec (recOk P ops i ⟨l.tree, ds⟩ h') rs = true) (hk9 : k ≠ 9)
    (hk : WD P w0 m0 N call ops plan (recsD k (recAt P ops i l h) rs) K l ds h') : WD P w0 m0 N call ops (i :: plan) rs K l ds h := by
  obtain ⟨o, ho, hok, hdn⟩ := dstN_ok hd
  refine WD.step (d := none) (v := .tup []) ho ?_ hkind (.inl hw) hrec hk9 hk
  have hw : wantedT ops l.get o.guard = some true := by simpa [wantAt, ho] using hw
  have hop : opA P l.eval o h = some (.skip, h') := by simpa [opAt, ho] using hop
  simp only [stepA, Fr.fget_tree, hw, Fr.eval_tree, hop, stepOut, stepPut, Fr.put_tree, hdn]
theorem WD.call {call : CallF} {ops : Array Oper} {i : Nat} {plan : List Nat} {rs : List Rec} {d : Option Nat} {f : FuncId} {args : List AV} {v : AV} {h1 : AHeap} {k : Nat} (hd : dstN N ops i = some d) (hw : wantAt ops l.get i = some true) (hop : opAt P l.eval ops i h = some (.call f args, h1))
    (hcall : call f args h1 = some (.ret v, h'))
    (hkind : kindD P ops i = k) (hrec : k = 2 → allRec (recOk P ops i ⟨(l.put d v).tree, ds⟩ h') rs = true) (hk9 : k ≠ 9)
    (hk : WD P w0 m0 N call ops plan (recsD k (recAt P ops i l h) rs) K (l.put d v) ds h') : WD P w0 m0 N call ops (i :: plan) rs K l ds h := by
  obtain ⟨o, ho, hok, rfl⟩ := dstN_ok hd
  refine WD.step ho ?_ hkind (.inl hw) hrec hk9 hk
  have hw : wantedT ops l.get o.guard = some true := by simpa [wantAt, ho] using hw
  have hop : opA P l.eval o h = some (.call f args, h1) := by simpa [opAt, ho] using hop
  simp only [stepA, Fr.fget_tree, hw, Fr.eval_tree, hop, stepOut, hcall, stepRes, stepPut, Fr.put_tree]
/-- it is not wanted -/
theorem WD.not {call : CallF} {ops : Array Oper} {i : Nat} {plan : List Nat} {rs : List Rec} {d : Option Nat} {k : Nat} (hd : dstN N ops i = some d) (hw : wantAt ops l.get i = some false)
    (hkind : kindD P ops i = k) (hrec : k = 2 → allRec (recOk P ops i ⟨(l.put d (.tup [])).tree, ds⟩ h) rs = true) (hk9 : k ≠ 9)
    (hk : WD P w0 m0 N call ops plan rs K (l.put d (.tup [])) ds h) : WD P w0 m0 N call ops (i :: plan) rs K l ds h := by
  obtain ⟨o, ho, hok, rfl⟩ := dstN_ok hd
  have hw : wantedT ops l.get o.guard = some false := by simpa [wantAt, ho] using hw
  have hst : stepA P call ops o ⟨l.tree, ds⟩ h = some (.go ⟨(l.put o.dst (.tup [])).tree, ds⟩ h) := by
    simp only [stepA, Fr.fget_tree, hw, stepPut, Fr.put_tree]
  obtain ⟨l2, h2, hgo, hq⟩ := hk
  refine ⟨l2, h2, ?_, hq⟩
  unfold dGo
  simp only [ho, hst]
  unfold kindD at hkind
  simp only [ho] at hkind
  split at hkind
  · rename_i hx
    subst hkind
    simp only [hx]
    exact hgo
  · rename_i hx
    subst hkind
    simp only [hx, hrec rfl, if_true]
    exact hgo
  · rename_i h0 h3
    subst hkind
    split
    · rename_i e; exact absurd e h0
    · rename_i e; exact absurd e h3
    · simp only [Fr.fget_tree, hw]
      exact hgo
end
end
end Go.Proofs.Ytpnccmlajhhpdaa.Abs
