/- Code walked in a round, too: the rules of Abs20 under a mark. -/
import Derived.Test.YtikaeeaepnflnaaAbs40
namespace Go.Proofs.Ytikaeeaepnflnaa.Abs
noncomputable section
open Go.RowKit

section
variable (P : Program) (w0 : Base) (m0 : Map) (N : Nat) (rd : Option Nat) (n : Nat)
def WR (c : Code) (Q : Exit → Act → World → Prop) (l : Fr) (ds : DefT) (h : AHeap) : Prop := Go w0 m0 N (c.wpIn (FW rd) n P Q) l ds h
def WLR (ops : Array Oper) (i : Nat) (Q : Exit → Act → World → Prop) (l : Fr) (ds : DefT) (h : AHeap) : Prop := Go w0 m0 N (wpListIn (FW rd) n P ops Q (ops.toList.drop i)) l ds h
/-- within a loop -/
def InLR (c : Code) (Q : Exit → Act → World → Prop) (act : Act) (w : World) : Prop := ∀ (b : Frame) (k : List Item) (cs : List Frame), b.roundOf = (FW rd).round →
  ∃ e a' w', Q e a' w' ∧ ArrivesIn (Machine.fenced P (FW rd)) P (lone (b.atR act (.code c :: .inLoop c :: k)) cs w) b k cs e a' w'
end

section
variable {P : Program} {w0 : Base} {m0 : Map} {N : Nat} {rd : Option Nat} {n : Nat} {l l' : Fr} {ds : DefT} {h h' : AHeap} {Q : Exit → Act → World → Prop} {K : Act → World → Prop} {both : BothF}
theorem WR.out {c : Code} (hk : WR P w0 m0 N none n c Q l ds h) : W P w0 m0 N c Q l ds h := fun m act w he ha F => wpIn_wide.1 (hk m act w he ha F)
theorem WR.weaken {c : Code} (hs : l.sub l') (hk : WR P w0 m0 N rd n c Q l' ds h) : WR P w0 m0 N rd n c Q l ds h := Go.weaken hs hk
theorem WLR.weaken {ops : Array Oper} {i : Nat} (hs : l.sub l') (hk : WLR P w0 m0 N rd n ops i Q l' ds h) : WLR P w0 m0 N rd n ops i Q l ds h := Go.weaken hs hk
theorem WR.skip {c : Code} (hc : Code.kind c = 0) (hk : Go w0 m0 N (Q .normal) l ds h) : WR P w0 m0 N rd n c Q l ds h := by
  cases c <;> first | (exact fun m act w he ha F => wpIn_skip (hk m act w he ha F)) | (simp [Code.kind] at hc; done) | (rename_i d; cases d <;> simp [Code.kind] at hc)
theorem WR.seq {c : Code} (hc : Code.kind c = 1) (hk : WR P w0 m0 N rd n (Code.p1 c) (Exit.then ((Code.p2 c).wpIn (FW rd) n P Q) Q) l ds h) : WR P w0 m0 N rd n c Q l ds h := by
  cases c <;> first | (exact fun m act w he ha F => wpIn_seq (hk m act w he ha F)) | (simp [Code.kind] at hc; done) | (rename_i d; cases d <;> simp [Code.kind] at hc)
theorem WR.cond_true {c : Code} (hc : Code.kind c = 2) (hv : l.eval (Code.opd c) = some (.bool true)) (hk : WR P w0 m0 N rd n (Code.p1 c) Q l ds h) : WR P w0 m0 N rd n c Q l ds h := by
  cases c <;> first | (exact fun m act w he ha F => wpIn_cond_true (rel_bool (eval_ok (a := ⟨l.tree, ds⟩) (fun t _ => ha.tmps t) _ (by rw [Fr.eval_tree]; exact hv))) (hk m act w he ha F)) | (simp [Code.kind] at hc; done) | (rename_i d; cases d <;> simp [Code.kind] at hc)
theorem WR.cond_false {c : Code} (hc : Code.kind c = 2) (hv : l.eval (Code.opd c) = some (.bool false)) (hk : WR P w0 m0 N rd n (Code.p2 c) Q l ds h) : WR P w0 m0 N rd n c Q l ds h := by
  cases c <;> first | (exact fun m act w he ha F => wpIn_cond_false (rel_bool (eval_ok (a := ⟨l.tree, ds⟩) (fun t _ => ha.tmps t) _ (by rw [Fr.eval_tree]; exact hv))) (hk m act w he ha F)) | (simp [Code.kind] at hc; done) | (rename_i d; cases d <;> simp [Code.kind] at hc)
theorem WR.block {c : Code} (hc : Code.kind c = 3) (hk : WR P w0 m0 N rd n (Code.p1 c) (Exit.inBlock (Code.num c) Q) l ds h) : WR P w0 m0 N rd n c Q l ds h := by
  cases c <;> first | (exact fun m act w he ha F => wpIn_block (hk m act w he ha F)) | (simp [Code.kind] at hc; done) | (rename_i d; cases d <;> simp [Code.kind] at hc)
theorem WR.exit {c : Code} (hc : Code.kind c = 5) (hk : Go w0 m0 N (Q (.exit (Code.num c))) l ds h) : WR P w0 m0 N rd n c Q l ds h := by
  cases c <;> first | (exact fun m act w he ha F => wpIn_exit (hk m act w he ha F)) | (simp [Code.kind] at hc; done) | (rename_i d; cases d <;> simp [Code.kind] at hc)
theorem WR.ret {c : Code} (hc : Code.kind c = 6) (hk : Go w0 m0 N (Q .ret) l ds h) : WR P w0 m0 N rd n c Q l ds h := by
  cases c <;> first | (exact fun m act w he ha F => wpIn_ret (hk m act w he ha F)) | (simp [Code.kind] at hc; done) | (rename_i d; cases d <;> simp [Code.kind] at hc)

theorem InLR.round {c : Code} {act : Act} {w : World} (hk : c.wpIn (FW rd) n P (Exit.then (InLR P rd c Q) Q) act w) : InLR P rd c Q act w := by
  intro b k cs hro
  have hb : (FW rd).fn b.fn := trivial
  have hr : (FW rd).room (cs.length + 1 + n) := room_wide _
  obtain ⟨e1, a1, w1, hq, harr⟩ := hk b (.inLoop c :: k) cs hro hb hr
  cases e1 with
  | normal =>
    obtain ⟨e3, a3, w3, hq3, harr3⟩ := hq b k cs hro
    exact ⟨e3, a3, w3, hq3, .of_steps (StepsIn.trans harr (.one (fenced_calm hb hr rfl) stepR_inLoop)) harr3⟩
  | exit id => exact ⟨_, a1, w1, hq, .pass (x := .inLoop c) rfl (fun _ _ => .inl (by simp)) harr⟩
  | goto l => exact ⟨_, a1, w1, hq, .pass (x := .inLoop c) rfl (fun _ _ => .inl (by simp)) harr⟩
  | ret => exact ⟨_, a1, w1, hq, .pass (x := .inLoop c) rfl (fun _ _ => .inl (by simp)) harr⟩
  | panic ch => exact ⟨_, a1, w1, hq, .pass (x := .inLoop c) rfl (fun _ _ => .inl (by simp)) harr⟩
  | outgrown => exact ⟨_, a1, w1, hq, .pass (x := .inLoop c) rfl (fun _ _ => .inl (by simp)) harr⟩
theorem WR.loop {c : Code} (hc : Code.kind c = 4) (hk : Go w0 m0 N (InLR P rd (Code.p1 c) Q) l ds h) : WR P w0 m0 N rd n c Q l ds h := by
  obtain ⟨x, rfl⟩ := kind_loop hc
  intro m act w he ha F b k cs hro hb hr
  obtain ⟨e, a', w', q, r⟩ := hk m act w he ha F b k cs hro
  exact ⟨e, a', w', q, .of_steps (.one (fenced_calm hb hr rfl) stepR_loop) r⟩
theorem Go.roundR {c : Code} (hk : WR P w0 m0 N rd n c (Exit.then (InLR P rd c Q) Q) l ds h) : Go w0 m0 N (InLR P rd c Q) l ds h := fun m act w he ha F => InLR.round (n := n) (hk m act w he ha F)

/-! ### operations -/
def noneBoth : BothF := fun _ _ _ _ => none
theorem noneBoth_ok : BothOK P w0 noneBoth := ⟨(fun _ _ _ _ _ h => nomatch h), (fun _ _ _ _ _ h => nomatch h)⟩
def isDefer (o : Oper) : Bool := match o.op with
  | .defer _ => true
  | _ => false
def dstR (N : Nat) (ops : Array Oper) (i : Nat) : Option (Option Nat) := match ops[i]? with
  | some o => match okDst N o && !isDefer o with
    | true => some o.dst
    | false => none
  | none => none
theorem dstR_ok {ops : Array Oper} {i : Nat} {d : Option Nat} (hd : dstR N ops i = some d) : ∃ o, ops[i]? = some o ∧ okDst N o = true ∧ (∀ c, o.op ≠ .defer c) ∧ o.dst = d := by
  unfold dstR at hd
  split at hd
  · rename_i o ho
    split at hd
    · rename_i hk
      rw [Bool.and_eq_true] at hk
      simp only [Option.some.injEq] at hd
      refine ⟨o, ho, hk.1, fun c e => ?_, hd⟩
      have := hk.2
      unfold isDefer at this
      rw [e] at this
      cases this
    · cases hd
  · cases hd
theorem stepR_ok1 (hc : BothOK P w0 both) {ops : Array Oper} {o : Oper} {ol : List Oper} {a : AAct} {st : AStep} {m : Map} {act : Act} {H : AHeap} {w : World} (ha : RelAct m N a act) (F : Fits w0 m H w) (ho : okDst N o = true) (hnd : ∀ c, o.op ≠ .defer c) (hst : stepR P both ops o a H = some st)
    (hgo : ∀ (a' : AAct) (h' : AHeap), st = .go a' h' → ∀ (m' : Map) (act' : Act) (w' : World), Ext m m' → RelAct m' N a' act' → Fits w0 m' h' w' → wpListIn (FW rd) n P ops Q ol act' w')
    (hpn : ∀ (v : AV) (h' : AHeap), st = .panic v h' → ∀ (m' : Map) (w' : World) (v' : Value), Ext m m' → Fits w0 m' h' w' → Rel m' v v' → Q (.panic [{ v := v', recovered := false }]) act w') :
    wpListIn (FW rd) n P ops Q (o :: ol) act w := by
  have hd' : ∀ t, o.dst = some t → t < N := by
    intro t ht
    simp only [okDst, ht] at ho
    exact Nat.le_of_ble_eq_true ho
  rw [wpListIn]
  unfold stepR at hst
  split at hst
  · rename_i hw
    rw [wanted_ok (fun t _ => ha.tmps t) hw]
    simp only [if_true]
    cases hop : opA P a.eval o H with
    | none => rw [hop] at hst; cases hst
    | some p =>
      obtain ⟨nx, H1⟩ := p
      rw [hop] at hst
      refine ⟨fun _ _ => trivial, ?_⟩
      rw [Oper.semAt_eq _ _ _ hnd]
      refine uponR_ok hc (opA_ok F o (fun x _ v hv => eval_ok (fun t _ => ha.tmps t) v hv) hop) hst (fun a' h' e' m' w' v v' he F' hv ea => ?_) (fun v h' e' m' w' v' he F' hv => ?_)
      · subst e' ea
        exact hgo _ _ rfl m' _ w' he ((ha.mono he.le).put1 hd' hv) F'
      · subst e'
        exact hpn _ _ rfl m' w' v' he F' hv
  · rename_i hw
    rw [wanted_ok (fun t _ => ha.tmps t) hw]
    simp only [Bool.false_eq_true, if_false]
    simp only [stepPut, Option.some.injEq] at hst
    subst hst
    refine ⟨fun _ _ => trivial, hgo _ _ rfl m _ w (Ext.refl m) (ha.put1 hd' (.tup .nil)) F⟩
  · cases hst
theorem WR.region {c : Code} (hc : Code.kind c = 7) (hk : WLR P w0 m0 N rd n (Code.ops c) 0 Q l ds h) : WR P w0 m0 N rd n c Q l ds h := by
  cases c with
  | region id ops d => cases d with
    | false => exact fun m act w he ha F => wpIn_region_list (hk m act w he ha F)
    | true => simp [Code.kind] at hc
  | _ => simp [Code.kind] at hc
theorem WLR.nil {ops : Array Oper} {i : Nat} (hi : Nat.beq ops.size i = true) (hk : Go w0 m0 N (Q .normal) l ds h) : WLR P w0 m0 N rd n ops i Q l ds h := by
  intro m act w he ha F
  have : ops.toList.drop i = [] := by
    have := Nat.eq_of_beq_eq_true hi
    simp [← this]
  rw [this]
  exact hk m act w he ha F
/-- the next operation -/
theorem WLR.step {ops : Array Oper} {i : Nat} {o : Oper} (ho : ops[i]? = some o) (hd : okDst N o = true) (hnd : ∀ c, o.op ≠ .defer c) (hc : BothOK P w0 both) {d : Option Nat} {v : AV} {ds' : DefT}
    (hst : stepR P both ops o ⟨l.tree, ds⟩ h = some (.go ⟨(l.put d v).tree, ds'⟩ h')) (hk : WLR P w0 m0 N rd n ops (i + 1) Q (l.put d v) ds' h') : WLR P w0 m0 N rd n ops i Q l ds h := by
  intro m act w he ha F
  have hl : i < ops.toList.length := by
    rcases Array.getElem?_eq_some_iff.1 ho with ⟨h1, _⟩
    simpa using h1
  have hdrop : ops.toList.drop i = o :: ops.toList.drop (i + 1) := by
    rw [List.drop_eq_getElem_cons hl]
    congr 1
    rcases Array.getElem?_eq_some_iff.1 ho with ⟨h1, h2⟩
    simpa using h2
  rw [hdrop]
  refine stepR_ok1 hc ha F hd hnd hst (fun a' h2 e m' act' w' he' ha' F' => ?_) (fun v h2 e => by cases e)
  simp only [AStep.go.injEq] at e
  obtain ⟨rfl, rfl⟩ := e
  exact hk m' act' w' (he.trans he') ha' F'
theorem WLR.panic_ {ops : Array Oper} {i : Nat} {o : Oper} (ho : ops[i]? = some o) (hd : okDst N o = true) (hnd : ∀ c, o.op ≠ .defer c) (hc : BothOK P w0 both) {v : AV}
    (hst : stepR P both ops o ⟨l.tree, ds⟩ h = some (.panic v h')) (hk : ∀ v' m, Ext m0 m → Rel m v v' → ∀ act w, RelAct m N ⟨l.tree, ds⟩ act → Fits w0 m h' w → Q (.panic [{ v := v', recovered := false }]) act w) : WLR P w0 m0 N rd n ops i Q l ds h := by
  intro m act w he ha F
  have hl : i < ops.toList.length := by
    rcases Array.getElem?_eq_some_iff.1 ho with ⟨h1, _⟩
    simpa using h1
  have hdrop : ops.toList.drop i = o :: ops.toList.drop (i + 1) := by
    rw [List.drop_eq_getElem_cons hl]
    congr 1
    rcases Array.getElem?_eq_some_iff.1 ho with ⟨h1, h2⟩
    simpa using h2
  rw [hdrop]
  refine stepR_ok1 hc ha F hd hnd hst (fun a' h2 e => by cases e) (fun v2 h2 e m' w' v' he' F' hv => ?_)
  simp only [AStep.panic.injEq] at e
  obtain ⟨rfl, rfl⟩ := e
  exact hk v' m' (he.trans he') hv act w' (ha.mono he'.le) F'
/-- it yields a value -/
theorem WLR.val {ops : Array Oper} {i : Nat} {d : Option Nat} {v : AV} (hd : dstR N ops i = some d) (hw : wantAt ops l.get i = some true) (hop : opAt P l.eval ops i h = some (.val v, h'))
    (hk : WLR P w0 m0 N rd n ops (i + 1) Q (l.put d v) ds h') : WLR P w0 m0 N rd n ops i Q l ds h := by
  obtain ⟨o, ho, hok, hnd, rfl⟩ := dstR_ok hd
  refine WLR.step (v := v) (d := o.dst) (ds' := ds) ho hok hnd noneBoth_ok ?_ hk
  have hw : wantedT ops l.get o.guard = some true := by simpa [wantAt, ho] using hw
  have hop : opA P l.eval o h = some (.val v, h') := by simpa [opAt, ho] using hop
  simp only [stepR, Fr.fget_tree, hw, Fr.eval_tree, hop, stepOutR, stepPut, Fr.put_tree]
/-- it stores -/
theorem WLR.eff {ops : Array Oper} {i : Nat} (hd : dstR N ops i = some none) (hw : wantAt ops l.get i = some true) (hop : opAt P l.eval ops i h = some (.skip, h'))
    (hk : WLR P w0 m0 N rd n ops (i + 1) Q l ds h') : WLR P w0 m0 N rd n ops i Q l ds h := by
  obtain ⟨o, ho, hok, hnd, hdn⟩ := dstR_ok hd
  refine WLR.step (v := .tup []) (d := none) (ds' := ds) ho hok hnd noneBoth_ok ?_ hk
  have hw : wantedT ops l.get o.guard = some true := by simpa [wantAt, ho] using hw
  have hop : opA P l.eval o h = some (.skip, h') := by simpa [opAt, ho] using hop
  simp only [stepR, Fr.fget_tree, hw, Fr.eval_tree, hop, stepOutR, stepPut, Fr.put_tree, hdn]
/-- it is not wanted -/
theorem WLR.not {ops : Array Oper} {i : Nat} {d : Option Nat} (hd : dstR N ops i = some d) (hw : wantAt ops l.get i = some false)
    (hk : WLR P w0 m0 N rd n ops (i + 1) Q (l.put d (.tup [])) ds h) : WLR P w0 m0 N rd n ops i Q l ds h := by
  obtain ⟨o, ho, hok, hnd, rfl⟩ := dstR_ok hd
  refine WLR.step (v := .tup []) (d := o.dst) (ds' := ds) ho hok hnd noneBoth_ok ?_ hk
  have hw : wantedT ops l.get o.guard = some false := by simpa [wantAt, ho] using hw
  simp only [stepR, Fr.fget_tree, hw, stepPut, Fr.put_tree]
/-- it calls a function, which returns -/
theorem WLR.callB (hc : BothOK P w0 both) {ops : Array Oper} {i : Nat} {d : Option Nat} {f : FuncId} {args : List AV} {v : AV} {h1 : AHeap} (hd : dstR N ops i = some d) (hw : wantAt ops l.get i = some true) (hop : opAt P l.eval ops i h = some (.call f args, h1))
    (hcall : both false f args h1 = some (.ret v, h')) (hk : WLR P w0 m0 N rd n ops (i + 1) Q (l.put d v) ds h') : WLR P w0 m0 N rd n ops i Q l ds h := by
  obtain ⟨o, ho, hok, hnd, rfl⟩ := dstR_ok hd
  refine WLR.step (v := v) (d := o.dst) (ds' := ds) ho hok hnd hc ?_ hk
  have hw : wantedT ops l.get o.guard = some true := by simpa [wantAt, ho] using hw
  have hop : opA P l.eval o h = some (.call f args, h1) := by simpa [opAt, ho] using hop
  simp only [stepR, Fr.fget_tree, hw, Fr.eval_tree, hop, stepOutR, hcall, stepRes, stepPut, Fr.put_tree]
theorem WLR.callPanicB (hc : BothOK P w0 both) {ops : Array Oper} {i : Nat} {d : Option Nat} {f : FuncId} {args : List AV} {v : AV} {h1 : AHeap} (hd : dstR N ops i = some d) (hw : wantAt ops l.get i = some true) (hop : opAt P l.eval ops i h = some (.call f args, h1))
    (hcall : both false f args h1 = some (.panic v, h')) (hk : ∀ v' m, Ext m0 m → Rel m v v' → ∀ act w, RelAct m N ⟨l.tree, ds⟩ act → Fits w0 m h' w → Q (.panic [{ v := v', recovered := false }]) act w) : WLR P w0 m0 N rd n ops i Q l ds h := by
  obtain ⟨o, ho, hok, hnd, rfl⟩ := dstR_ok hd
  refine WLR.panic_ ho hok hnd hc ?_ hk
  have hw : wantedT ops l.get o.guard = some true := by simpa [wantAt, ho] using hw
  have hop : opA P l.eval o h = some (.call f args, h1) := by simpa [opAt, ho] using hop
  simp only [stepR, Fr.fget_tree, hw, Fr.eval_tree, hop, stepOutR, hcall, stepRes]
theorem WLR.pan {ops : Array Oper} {i : Nat} {d : Option Nat} {v : AV} (hd : dstR N ops i = some d) (hw : wantAt ops l.get i = some true) (hop : opAt P l.eval ops i h = some (.panic v, h'))
    (hk : ∀ v' m, Ext m0 m → Rel m v v' → ∀ act w, RelAct m N ⟨l.tree, ds⟩ act → Fits w0 m h' w → Q (.panic [{ v := v', recovered := false }]) act w) : WLR P w0 m0 N rd n ops i Q l ds h := by
  obtain ⟨o, ho, hok, hnd, rfl⟩ := dstR_ok hd
  refine WLR.panic_ ho hok hnd noneBoth_ok ?_ hk
  have hw : wantedT ops l.get o.guard = some true := by simpa [wantAt, ho] using hw
  have hop : opA P l.eval o h = some (.panic v, h') := by simpa [opAt, ho] using hop
  simp only [stepR, Fr.fget_tree, hw, Fr.eval_tree, hop, stepOutR]

def noRnd : Nat → List AV → AHeap → Option (ARes × AHeap) := fun _ _ _ => none
/-- calls, and rounds -/
def mkBoth (call : CallF) (rnd : Nat → List AV → AHeap → Option (ARes × AHeap)) : BothF := fun k f args h => match k with
  | false => call f args h
  | true => rnd f args h
theorem both_of_call {call : CallF} (hc : CallOK P w0 call) : BothOK P w0 (mkBoth call noRnd) := ⟨hc, (fun _ _ _ _ _ h => nomatch h)⟩
theorem WLR.call {call : CallF} (hc : CallOK P w0 call) {ops : Array Oper} {i : Nat} {d : Option Nat} {f : FuncId} {args : List AV} {v : AV} {h1 : AHeap} (hd : dstR N ops i = some d) (hw : wantAt ops l.get i = some true) (hop : opAt P l.eval ops i h = some (.call f args, h1))
    (hcall : call f args h1 = some (.ret v, h')) (hk : WLR P w0 m0 N rd n ops (i + 1) Q (l.put d v) ds h') : WLR P w0 m0 N rd n ops i Q l ds h := WLR.callB (both_of_call hc) hd hw hop hcall hk
theorem WLR.callPanic {call : CallF} (hc : CallOK P w0 call) {ops : Array Oper} {i : Nat} {d : Option Nat} {f : FuncId} {args : List AV} {v : AV} {h1 : AHeap} (hd : dstR N ops i = some d) (hw : wantAt ops l.get i = some true) (hop : opAt P l.eval ops i h = some (.call f args, h1))
    (hcall : call f args h1 = some (.panic v, h')) (hk : ∀ v' m, Ext m0 m → Rel m v v' → ∀ act w, RelAct m N ⟨l.tree, ds⟩ act → Fits w0 m h' w → Q (.panic [{ v := v', recovered := false }]) act w) : WLR P w0 m0 N rd n ops i Q l ds h := WLR.callPanicB (both_of_call hc) hd hw hop hcall hk
/-- it calls what is handed to it: a round -/
theorem WLR.round (hc : BothOK P w0 both) {ops : Array Oper} {i : Nat} {d : Option Nat} {b : Nat} {args : List AV} {v : AV} {h1 : AHeap} (hd : dstR N ops i = some d) (hw : wantAt ops l.get i = some true) (hop : opAt P l.eval ops i h = some (.round b args, h1))
    (hcall : both true b args h1 = some (.ret v, h')) (hk : WLR P w0 m0 N rd n ops (i + 1) Q (l.put d v) ds h') : WLR P w0 m0 N rd n ops i Q l ds h := by
  obtain ⟨o, ho, hok, hnd, rfl⟩ := dstR_ok hd
  refine WLR.step (v := v) (d := o.dst) (ds' := ds) ho hok hnd hc ?_ hk
  have hw : wantedT ops l.get o.guard = some true := by simpa [wantAt, ho] using hw
  have hop : opA P l.eval o h = some (.round b args, h1) := by simpa [opAt, ho] using hop
  simp only [stepR, Fr.fget_tree, hw, Fr.eval_tree, hop, stepOutR, hcall, stepRes, stepPut, Fr.put_tree]
theorem WR.draw (hm : P.follows .mixedOrders = true) {call : CallF} (hc : CallOK P w0 call) {c : Code} {plan : List Nat} (hk : Code.kind c = 8) (hok : (okOps N (Code.ops c).toList && noDefer (Code.ops c)) = true) (hp : planOf P (Code.ops c) = some plan)
    (hd : WD P w0 m0 N call (Code.ops c) plan [] (Q .normal) l ds h) : WR P w0 m0 N rd n c Q l ds h := by
  rw [Bool.and_eq_true] at hok
  cases c with
  | region id ops d => cases d with
    | true =>
      intro m act w he ha F
      obtain ⟨l', h', hgo, hq⟩ := hd
      have hdraw : aDraw P call ops ⟨l.tree, ds⟩ h = some (.normal, ⟨l'.tree, ds⟩, h') := by
        unfold aDraw
        have hp : planOf P ops = some plan := hp
        rw [hp]
        exact hgo
      refine wpIn_mono (wpIn_region_any hm (anyIn_of hok.2 post_keeps _ _ _ _ (draw_any hc (okOps_mem _ hok.1) ha F hdraw))) ?_
      rintro e' act2 w2 ⟨m2, hx, ha2, F2, hex⟩
      cases hex
      exact hq m2 act2 w2 (he.trans hx) ha2 F2
    | false => simp [Code.kind] at hk
  | _ => simp [Code.kind] at hk
/-- a loop over a function, in a frame of its own: it runs to its end, or is left by an exit, or by a return -/
theorem WR.range (hc : BothOK P w0 both) {f : Operand} {ps : Array Tmp} {x y : Code} {e : AExit} {l' : Fr} {ds' : DefT} (hr : rangeR P both none N (l.eval f) ps x y ⟨l.tree, ds⟩ h = some (e, ⟨l'.tree, ds'⟩, h'))
    (hq : ∀ (m : Map) (act : Act) (w : World) (e' : Exit), Ext m0 m → RelExit m e e' → RelAct m N ⟨l'.tree, ds'⟩ act → Fits w0 m h' w → Q e' act w) : WR P w0 m0 N none n (.rangeFunc f ps x y) Q l ds h := by
  intro m act w he ha F
  have hev : (⟨l.tree, ds⟩ : AAct).eval f = l.eval f := by rw [Fr.eval_tree]
  refine wpIn_mono (rangeR_ok (rb := none) (f := f) hc ⟨l.tree, ds⟩ h e _ h' (by
    show rangeR P both none N ((⟨l.tree, ds⟩ : AAct).eval f) ps x y ⟨l.tree, ds⟩ h = _
    rw [hev]
    exact hr) none n m act w trivial ha F) ?_
  rintro e' act2 w2 ⟨m2, hx, ha2, F2, hex⟩
  exact hq m2 act2 w2 e' (he.trans hx) hex ha2 F2
end
/-! ### rounds, whoever does their code -/
abbrev CodeFT := Nat → Nat → Code → AAct → AHeap → CodeT
def roundG (cf : CodeFT) (b : Nat) (args : List AV) (h : AHeap) : Option (ARes × AHeap) := match h.get b with
  | some (.obj (.loop r)) => match putPs r.N r.ps.toList args r.tmps with
    | some t => midRound (cf r.N b r.body) b (cf r.N b r.assign ⟨t, []⟩ h)
    | none => none
  | _ => none
section
variable {P : Program} {m : Map} {w0 : Base} {w : World} {H H' : AHeap} {both : BothF} {rd rb : Option Nat} {N lf : Nat}
theorem roundG_ok {cf : CodeFT} (hcf : ∀ N b c, CodeROK P w0 N (some b) (cf N b c) c) : RoundOK P w0 (roundG cf) := by
  intro b args h r h' hr m w args' g r' hra F hmb hl hlen rd n
  unfold roundG at hr
  split at hr
  · rename_i rr hb
    split at hr
    · rename_i t ht
      obtain ⟨_, _, _, r2, k1, k2, k3, k4, k5, k6, k7, k8, k9⟩ := F.obj _ _ _ _ _ hb hmb
      rw [hl] at k1
      cases k1
      have hfr := putPs_ok rr.ps.toList args args' rr.tmps t r'.tmps ht hra k4 k5
      have hz : (r'.params.zip ⟨args'⟩).foldl (fun tmps (x : Tmp × Value) => tmps.setIfInBounds x.1 x.2) r'.tmps = (rr.ps.toList.zip args').foldl (fun tmps (p : Tmp × Value) => tmps.setIfInBounds p.1 p.2) r'.tmps := by
        rw [k6, ← Array.foldl_toList, Array.toList_zip]
      rw [← hz] at hfr
      refine roundIn_of_wpIn trivial ?_
      have hrel : RelAct m rr.N ⟨t, []⟩ { tmps := (r'.params.zip ⟨args'⟩).foldl (fun tmps (x : Tmp × Value) => tmps.setIfInBounds x.1 x.2) r'.tmps, defers := [] } := ⟨hfr.1, fun i v hv => hfr.2 i v hv, .nil⟩
      unfold midRound at hr
      split at hr
      · rename_i a1 h1 hcode
        have h1w := hcf rr.N b rr.assign _ _ _ _ _ hcode (some g) n m _ w hmb hrel F
        rw [k7]
        refine wpIn_mono h1w ?_
        rintro e1 act1 w1 ⟨m1, hx1, ha1, F1, hex⟩
        cases hex
        split at hr
        · rename_i r1 hb1
          split at hr
          · rename_i hst
            have hmb1 := hx1.le _ _ hmb
            obtain ⟨r1', q1, q2, q3, q4, F2⟩ := F1.reLoop hb1 hmb1 .busy r1.pend
            rw [← q3] at F2
            refine ⟨_, run_beginRound q1 (by rw [q2]; exact hst), ?_⟩
            unfold endRound at hr
            split at hr
            · rename_i e3 a3 h3 hbody
              split at hr
              · rename_i j hj
                split at hr
                · rename_i r3 hb3
                  simp only [Option.some.injEq, Prod.mk.injEq] at hr
                  obtain ⟨rfl, rfl⟩ := hr
                  have h2w := hcf rr.N b rr.body _ _ _ _ _ hbody (some g) n m1 _ _ hmb1 ha1 F2
                  rw [k8]
                  refine wpIn_mono h2w ?_
                  rintro e4 act4 w4 ⟨m4, hx4, ha4, F4, hex⟩
                  have hmb4 := hx4.le _ _ hmb1
                  obtain ⟨r3', p1, p2, p3, p4, F5⟩ := F4.reLoop hb3 hmb4 (if j.isNone then .ready else .done) j
                  have hx := hx1.trans hx4
                  cases hex with
                  | normal =>
                    simp only [jumpOf, Option.some.injEq] at hj
                    subst hj
                    exact ⟨_, _, run_endRound none p1, m4, hx, F5, _, rfl, .bool _⟩
                  | ret =>
                    simp only [jumpOf, Option.some.injEq] at hj
                    subst hj
                    exact ⟨_, _, run_endRound (some .ret) p1, m4, hx, F5, _, rfl, .bool _⟩
                  | exit id =>
                    simp only [jumpOf, Option.some.injEq] at hj
                    subst hj
                    exact ⟨_, _, run_endRound (some (.exit id)) p1, m4, hx, F5, _, rfl, .bool _⟩
                  | goto l => cases hj
                  | panic hv => cases hj
                · cases hr
              · cases hr
            · cases hr
          · cases hr
        · cases hr
      · cases hr
    · cases hr
  · cases hr

end
/-- whatever world it begins in -/
def BothAll (P : Program) (both : BothF) : Prop := ∀ w0, BothOK P w0 both
theorem BothAll.says {P : Program} {both : BothF} (h : BothAll P both) : SaysAll P (both false) := SaysAll.of fun w0 => (h w0).call
theorem BothAll.none {P : Program} : BothAll P noneBoth := fun _ => noneBoth_ok
theorem mkBoth_ok {P : Program} {call : CallF} {rnd : Nat → List AV → AHeap → Option (ARes × AHeap)} (hc : SaysAll P call) (hr : ∀ w0, RoundOK P w0 rnd) : BothAll P (mkBoth call rnd) := fun w0 => ⟨hc.ok w0, hr w0⟩
/-- functions and rounds put together, any number of levels -/
def worldB (cf : BothF → CallF) (rf : BothF → Nat → List AV → AHeap → Option (ARes × AHeap)) : Nat → BothF
  | 0 => noneBoth
  | d + 1 => mkBoth (cf (worldB cf rf d)) (rf (worldB cf rf d))
theorem worldB_ok {P : Program} {cf : BothF → CallF} {rf : BothF → Nat → List AV → AHeap → Option (ARes × AHeap)} (hc : ∀ both, BothAll P both → SaysAll P (cf both)) (hr : ∀ both, BothAll P both → ∀ w0, RoundOK P w0 (rf both)) : ∀ d, BothAll P (worldB cf rf d)
  | 0 => BothAll.none
  | d + 1 => mkBoth_ok (hc _ (worldB_ok hc hr d)) (hr _ (worldB_ok hc hr d))
/-! ### a function leaves, marks and all -/
section
variable {P : Program} {w0 : Base} {m0 : Map} {N : Nat} {rd : Option Nat} {n : Nat} {l l' : Fr} {ds : DefT} {h h' : AHeap} {Q : Exit → Act → World → Prop} {K : Act → World → Prop} {both : BothF} {r : ARes}
abbrev FinM (P : Program) (fn : Func) (w0 : Base) (m0 : Map) (r : ARes) (h' : AHeap) : Exit → Act → World → Prop := bodyPostM Fence.wide 0 P fn (RetOK w0 m0 h' r)
theorem Go.leaveM {fn : Func} (hr : marksR P fn ⟨l.tree, ds⟩ ds h = some (r, h')) : Go w0 m0 N (FinM P fn w0 m0 r h' .ret) l ds h := fun m _ w he ha F =>
  LeavesInM.mono (fun _ _ hh => hh.ext he) _ _ _ (marksR_all _ _ hr m _ ha.defers) (marksR_ok _ h hr m _ w ha.tmps ha.defers F)
theorem Go.leaveMN {fn : Func} (hr : marksR P fn ⟨l.tree, ds⟩ ds h = some (r, h')) : Go w0 m0 N (FinM P fn w0 m0 r h' .normal) l ds h := Go.leaveM hr
theorem says_ofM {f : FuncId} {fn : Func} {args : List AV} (hf : P.funcs[f]? = some fn) {c : Code} (hb : fn.body = some c) (hlen : Nat.ble args.length fn.ntmps = true)
    (hw : ∀ w0 m0, WR P w0 m0 fn.ntmps none 0 c (FinM P fn w0 m0 r h') (argsFr 0 args) [] h) : Says P f args h r h' := by
  intro w0 m w args' ha F
  have hlen := Nat.le_of_ble_eq_true hlen
  have hl := ha.length
  have hra : RelAct m fn.ntmps ⟨(argsFr 0 args).tree, []⟩ { tmps := (⟨args'⟩ : Array Value) ++ Array.replicate (fn.ntmps - (⟨args'⟩ : Array Value).size) undef, defers := [] } := {
    size := by simp; omega
    tmps := fun t v hv => by
      have hv : (argsFr 0 args).tree.get t = some v := hv
      rw [Fr.get_tree] at hv
      obtain ⟨_, hv⟩ := argsFr_get _ _ _ _ hv
      rw [Nat.sub_zero] at hv
      obtain ⟨y, hy, hr⟩ := ha.get t v hv
      have ht : t < args'.length := (List.getElem?_eq_some_iff.1 hy).1
      refine ⟨y, ?_, hr⟩
      simp only
      rw [Array.getElem?_append_left (by simpa using ht)]
      simpa using hy
    defers := .nil }
  exact callsIn_wide.1 (callsIn_of_wp_marks (n := 0) hf hb trivial (hw w0 m m _ w (Ext.refl m) hra F))
/-- a frame of slots as a list -/
theorem RelAct.ofTree {m : Map} {act : Act} {t : T AV} (hs : ∀ i v, l.get i = some v → t.get i = some v) (hr : RelAct m N ⟨t, ds⟩ act) : RelAct m N ⟨l.tree, ds⟩ act where
  size := hr.size
  tmps i := fun v hv => hr.tmps i v (by
    have hv : l.tree.get i = some v := hv
    rw [Fr.get_tree] at hv
    exact hs i v hv)
  defers := hr.defers
/-- a code's plain function: of its frame, what it reads alone -/
theorem codeROK_of {c : Code} {f : AAct → AHeap → CodeT} (hf : ∀ (t : T AV) (ds : DefT) (h : AHeap) (e : AExit) (a' : AAct) (h' : AHeap), f ⟨t, ds⟩ h = some (e, a', h') → ∃ l : Fr, (∀ i v, l.get i = some v → t.get i = some v) ∧ ∀ rd n m0, WR P w0 m0 N rd n c (fun e' act w => Post w0 m0 N e a' h' e' act w) l ds h) (rb : Option Nat) : CodeROK P w0 N rb f c := by
  intro a h e a' h' hr rd n m act w hrb ha F
  obtain ⟨l, hl, hk⟩ := hf a.tmps a.defers h e a' h' hr
  exact hk rd n m m act w (Ext.refl m) (RelAct.ofTree hl ha) F
end
end
end Go.Proofs.Ytikaeeaepnflnaa.Abs
