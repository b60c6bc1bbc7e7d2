/- What voteOnce_proved stands on, part 6 of 8. -/
import Derived.Test.YteecmjmglmpbpaaKO5
namespace Go.Proofs.Yteecmjmglmpbpaa.Abs
noncomputable section
open Go.RowKit
section
variable (P : Program) (w0 : Base) (m0 : Map) (N : Nat) (rd : Option Nat) (n : Nat)
def WR (c : Code) (Q : Exit → Act → World → Prop) (l : Fr) (ds : DefT) (h : AHeap) : Prop := Go w0 m0 N (c.wpIn (FW rd) n P Q) l ds h
def WLR (ops : Array Oper) (i : Nat) (Q : Exit → Act → World → Prop) (l : Fr) (ds : DefT) (h : AHeap) : Prop := Go w0 m0 N (wpListIn (FW rd) n P ops Q (ops.toList.drop i)) l ds h
def InLR (c : Code) (Q : Exit → Act → World → Prop) (act : Act) (w : World) : Prop := ∀ (b : Frame) (k : List Item) (cs : List Frame), b.roundOf = (FW rd).round →
 ∃ e a' w', Q e a' w' ∧ ArrivesIn (Machine.fenced P (FW rd)) P (lone (b.atR act (.code c :: .inLoop c :: k)) cs w) b k cs e a' w'
end
section
variable {P : Program} {w0 : Base} {m0 : Map} {N : Nat} {rd : Option Nat} {n : Nat} {l l' : Fr} {ds : DefT} {h h' : AHeap} {Q : Exit → Act → World → Prop} {K : Act → World → Prop} {both : BothF}
theorem WR.weaken {c : Code} (hs : l.sub l') (hk : WR P w0 m0 N rd n c Q l' ds h) : WR P w0 m0 N rd n c Q l ds h := Go.weaken hs hk
theorem WLR.weaken {ops : Array Oper} {i : Nat} (hs : l.sub l') (hk : WLR P w0 m0 N rd n ops i Q l' ds h) : WLR P w0 m0 N rd n ops i Q l ds h := Go.weaken hs hk
theorem WR.skip {c : Code} (hc : Code.kind c = 0) (hk : Go w0 m0 N (Q .normal) l ds h) : WR P w0 m0 N rd n c Q l ds h := by
 cases c <;> first | (exact fun m act w he ha F => wpIn_skip (hk m act w he ha F)) | (simp [Code.kind] at hc; done) | (rename_i d; cases d <;> simp [Code.kind] at hc)
theorem WR.seq {c : Code} (hc : Code.kind c = 1) (hk : WR P w0 m0 N rd n (Code.p1 c) (Exit.then ((Code.p2 c).wpIn (FW rd) n P Q) Q) l ds h) : WR P w0 m0 N rd n c Q l ds h := by
 cases c <;> first | (exact fun m act w he ha F => wpIn_seq (hk m act w he ha F)) | (simp [Code.kind] at hc; done) | (rename_i d; cases d <;> simp [Code.kind] at hc)
theorem WR.cond_true {c : Code} (hc : Code.kind c = 2) (hv : l.eval (Code.opd c) = some (.bool true)) (hk : WR P w0 m0 N rd n (Code.p1 c) Q l ds h) : WR P w0 m0 N rd n c Q l ds h := by
 cases c <;> first | (exact fun m act w he ha F => wpIn_cond_true (rel_bool (eval_ok (a := ⟨l.tree, ds⟩) (fun t _ => ha.tmps t) _ (by rw [Fr.eval_tree]; exact hv))) (hk m act w he ha F)) | (simp [Code.kind] at hc; done) | (rename_i d; cases d <;> simp [Code.kind] at hc)
theorem WR.cond_false {c : Code} (hc : Code.kind c = 2) (hv : l.eval (Code.opd c) = some (.bool false)) (hk : WR P w0 m0 N rd n (Code.p2 c) Q l ds h) : WR P w0 m0 N rd n c Q l ds h := by
 cases c <;> first | (exact fun m act w he ha F => wpIn_cond_false (rel_bool (eval_ok (a := ⟨l.tree, ds⟩) (fun t _ => ha.tmps t) _ (by rw [Fr.eval_tree]; exact hv))) (hk m act w he ha F)) | (simp [Code.kind] at hc; done) | (rename_i d; cases d <;> simp [Code.kind] at hc)
theorem WR.block {c : Code} (hc : Code.kind c = 3) (hk : WR P w0 m0 N rd n (Code.p1 c) (Exit.inBlock (Code.num c) Q) l ds h) : WR P w0 m0 N rd n c Q l ds h := by
 cases c <;> first | (exact fun m act w he ha F => wpIn_block (hk m act w he ha F)) | (simp [Code.kind] at hc; done) | (rename_i d; cases d <;> simp [Code.kind] at hc)
theorem WR.exit {c : Code} (hc : Code.kind c = 5) (hk : Go w0 m0 N (Q (.exit (Code.num c))) l ds h) : WR P w0 m0 N rd n c Q l ds h := by
 cases c <;> first | (exact fun m act w he ha F => wpIn_exit (hk m act w he ha F)) | (simp [Code.kind] at hc; done) | (rename_i d; cases d <;> simp [Code.kind] at hc)
theorem WR.ret {c : Code} (hc : Code.kind c = 6) (hk : Go w0 m0 N (Q .ret) l ds h) : WR P w0 m0 N rd n c Q l ds h := by
 cases c <;> first | (exact fun m act w he ha F => wpIn_ret (hk m act w he ha F)) | (simp [Code.kind] at hc; done) | (rename_i d; cases d <;> simp [Code.kind] at hc)
theorem InLR.round {c : Code} {act : Act} {w : World} (hk : c.wpIn (FW rd) n P (Exit.then (InLR P rd c Q) Q) act w) : InLR P rd c Q act w := by
 intro b k cs hro
 have hb : (FW rd).fn b.fn := trivial
 have hr : (FW rd).room (cs.length + 1 + n) := room_wide _
 obtain ⟨e1, a1, w1, hq, harr⟩ := hk b (.inLoop c :: k) cs hro hb hr
 cases e1 with
 | normal =>
  obtain ⟨e3, a3, w3, hq3, harr3⟩ := hq b k cs hro
  exact ⟨e3, a3, w3, hq3, .of_steps (StepsIn.trans harr (.one (fenced_calm hb hr rfl) stepR_inLoop)) harr3⟩
 | exit id => exact ⟨_, a1, w1, hq, .pass (x := .inLoop c) rfl (fun _ _ => .inl (by simp)) harr⟩
 | goto l => exact ⟨_, a1, w1, hq, .pass (x := .inLoop c) rfl (fun _ _ => .inl (by simp)) harr⟩
 | ret => exact ⟨_, a1, w1, hq, .pass (x := .inLoop c) rfl (fun _ _ => .inl (by simp)) harr⟩
 | panic ch => exact ⟨_, a1, w1, hq, .pass (x := .inLoop c) rfl (fun _ _ => .inl (by simp)) harr⟩
 | outgrown => exact ⟨_, a1, w1, hq, .pass (x := .inLoop c) rfl (fun _ _ => .inl (by simp)) harr⟩
theorem WR.loop {c : Code} (hc : Code.kind c = 4) (hk : Go w0 m0 N (InLR P rd (Code.p1 c) Q) l ds h) : WR P w0 m0 N rd n c Q l ds h := by
 obtain ⟨x, rfl⟩ := kind_loop hc
 intro m act w he ha F b k cs hro hb hr
 obtain ⟨e, a', w', q, r⟩ := hk m act w he ha F b k cs hro
 exact ⟨e, a', w', q, .of_steps (.one (fenced_calm hb hr rfl) stepR_loop) r⟩
theorem Go.roundR {c : Code} (hk : WR P w0 m0 N rd n c (Exit.then (InLR P rd c Q) Q) l ds h) : Go w0 m0 N (InLR P rd c Q) l ds h := fun m act w he ha F => InLR.round (n := n) (hk m act w he ha F)
def noneBoth : BothF := fun _ _ _ _ => none
theorem noneBoth_ok : BothOK P w0 noneBoth := ⟨(fun _ _ _ _ _ h => nomatch h), (fun _ _ _ _ _ h => nomatch h)⟩
def isDefer (o : Oper) : Bool := match o.op with
 | .defer _ => true
 | _ => false
def dstR (N : Nat) (ops : Array Oper) (i : Nat) : Option (Option Nat) := match ops[i]? with
 | some o => match okDst N o && !isDefer o with
  | true => some o.dst
  | false => none
 | none => none
theorem dstR_ok {ops : Array Oper} {i : Nat} {d : Option Nat} (hd : dstR N ops i = some d) : ∃ o, ops[i]? = some o ∧ okDst N o = true ∧ (∀ c, o.op ≠ .defer c) ∧ o.dst = d := by
 unfold dstR at hd
 split at hd
 ·rename_i o ho
  split at hd
  ·rename_i hk
   rw [Bool.and_eq_true] at hk
   simp only [Option.some.injEq] at hd
   refine ⟨o, ho, hk.1, fun c e => ?_, hd⟩
   have := hk.2
   unfold isDefer at this
   rw [e] at this
   cases this
  ·cases hd
 ·cases hd
theorem stepR_ok1 (hc : BothOK P w0 both) {ops : Array Oper} {o : Oper} {ol : List Oper} {a : AAct} {st : AStep} {m : Map} {act : Act} {H : AHeap} {w : World} (ha : RelAct m N a act) (F : Fits w0 m H w) (ho : okDst N o = true) (hnd : ∀ c, o.op ≠ .defer c) (hst : stepR P both ops o a H = some st)
  (hgo : ∀ (a' : AAct) (h' : AHeap), st = .go a' h' → ∀ (m' : Map) (act' : Act) (w' : World), Ext m m' → RelAct m' N a' act' → Fits w0 m' h' w' → wpListIn (FW rd) n P ops Q ol act' w')
  (hpn : ∀ (v : AV) (h' : AHeap), st = .panic v h' → ∀ (m' : Map) (w' : World) (v' : Value), Ext m m' → Fits w0 m' h' w' → Rel m' v v' → Q (.panic [{ v := v', recovered := false }]) act w') :
  wpListIn (FW rd) n P ops Q (o :: ol) act w := by
 have hd' : ∀ t, o.dst = some t → t < N := by
  intro t ht
  simp only [okDst, ht] at ho
  exact Nat.le_of_ble_eq_true ho
 rw [wpListIn]
 unfold stepR at hst
 split at hst
 ·rename_i hw
  rw [wanted_ok (fun t _ => ha.tmps t) hw]
  simp only [if_true]
  cases hop : opA P a.eval o H with
  | none => rw [hop] at hst; cases hst
  | some p =>
   obtain ⟨nx, H1⟩ := p
   rw [hop] at hst
   refine ⟨fun _ _ => trivial, ?_⟩
   rw [Oper.semAt_eq _ _ _ hnd]
   refine uponR_ok hc (opA_ok F o (fun x _ v hv => eval_ok (fun t _ => ha.tmps t) v hv) hop) hst (fun a' h' e' m' w' v v' he F' hv ea => ?_) (fun v h' e' m' w' v' he F' hv => ?_)
   ·subst e' ea
    exact hgo _ _ rfl m' _ w' he ((ha.mono he.le).put1 hd' hv) F'
   ·subst e'
    exact hpn _ _ rfl m' w' v' he F' hv
 ·rename_i hw
  rw [wanted_ok (fun t _ => ha.tmps t) hw]
  simp only [Bool.false_eq_true, if_false]
  simp only [stepPut, Option.some.injEq] at hst
  subst hst
  refine ⟨fun _ _ => trivial, hgo _ _ rfl m _ w (Ext.refl m) (ha.put1 hd' (.tup .nil)) F⟩
 ·cases hst
theorem WR.region {c : Code} (hc : Code.kind c = 7) (hk : WLR P w0 m0 N rd n (Code.ops c) 0 Q l ds h) : WR P w0 m0 N rd n c Q l ds h := by
 cases c with
 | region id ops d => cases d with
  | false => exact fun m act w he ha F => wpIn_region_list (hk m act w he ha F)
  | true => simp [Code.kind] at hc
 | _ => simp [Code.kind] at hc
theorem WLR.nil {ops : Array Oper} {i : Nat} (hi : Nat.beq ops.size i = true) (hk : Go w0 m0 N (Q .normal) l ds h) : WLR P w0 m0 N rd n ops i Q l ds h := by
 intro m act w he ha F
 have : ops.toList.drop i = [] := by
  have := Nat.eq_of_beq_eq_true hi
  simp [← this]
 rw [this]
 exact hk m act w he ha F
theorem WLR.step {ops : Array Oper} {i : Nat} {o : Oper} (ho : ops[i]? = some o) (hd : okDst N o = true) (hnd : ∀ c, o.op ≠ .defer c) (hc : BothOK P w0 both) {d : Option Nat} {v : AV} {ds' : DefT}
  (hst : stepR P both ops o ⟨l.tree, ds⟩ h = some (.go ⟨(l.put d v).tree, ds'⟩ h')) (hk : WLR P w0 m0 N rd n ops (i + 1) Q (l.put d v) ds' h') : WLR P w0 m0 N rd n ops i Q l ds h := by
 intro m act w he ha F
 have hl : i < ops.toList.length := by
  rcases Array.getElem?_eq_some_iff.1 ho with ⟨h1, _⟩
  simpa using h1
 have hdrop : ops.toList.drop i = o :: ops.toList.drop (i + 1) := by
  rw [List.drop_eq_getElem_cons hl]
  congr 1
  rcases Array.getElem?_eq_some_iff.1 ho with ⟨h1, h2⟩
  simpa using h2
 rw [hdrop]
 refine stepR_ok1 hc ha F hd hnd hst (fun a' h2 e m' act' w' he' ha' F' => ?_) (fun v h2 e => by cases e)
 simp only [AStep.go.injEq] at e
 obtain ⟨rfl, rfl⟩ := e
 exact hk m' act' w' (he.trans he') ha' F'
theorem WLR.val {ops : Array Oper} {i : Nat} {d : Option Nat} {v : AV} (hd : dstR N ops i = some d) (hw : wantAt ops l.get i = some true) (hop : opAt P l.eval ops i h = some (.val v, h'))
  (hk : WLR P w0 m0 N rd n ops (i + 1) Q (l.put d v) ds h') : WLR P w0 m0 N rd n ops i Q l ds h := by
 obtain ⟨o, ho, hok, hnd, rfl⟩ := dstR_ok hd
 refine WLR.step (v := v) (d := o.dst) (ds' := ds) ho hok hnd noneBoth_ok ?_ hk
 have hw : wantedT ops l.get o.guard = some true := by simpa [wantAt, ho] using hw
 have hop : opA P l.eval o h = some (.val v, h') := by simpa [opAt, ho] using hop
 simp only [stepR, Fr.fget_tree, hw, Fr.eval_tree, hop, stepOutR, stepPut, Fr.put_tree]
theorem WLR.eff {ops : Array Oper} {i : Nat} (hd : dstR N ops i = some none) (hw : wantAt ops l.get i = some true) (hop : opAt P l.eval ops i h = some (.skip, h'))
  (hk : WLR P w0 m0 N rd n ops (i + 1) Q l ds h') : WLR P w0 m0 N rd n ops i Q l ds h := by
 obtain ⟨o, ho, hok, hnd, hdn⟩ := dstR_ok hd
 refine WLR.step (v := .tup []) (d := none) (ds' := ds) ho hok hnd noneBoth_ok ?_ hk
 have hw : wantedT ops l.get o.guard = some true := by simpa [wantAt, ho] using hw
 have hop : opA P l.eval o h = some (.skip, h') := by simpa [opAt, ho] using hop
 simp only [stepR, Fr.fget_tree, hw, Fr.eval_tree, hop, stepOutR, stepPut, Fr.put_tree, hdn]
theorem WLR.not {ops : Array Oper} {i : Nat} {d : Option Nat} (hd : dstR N ops i = some d) (hw : wantAt ops l.get i = some false)
  (hk : WLR P w0 m0 N rd n ops (i + 1) Q (l.put d (.tup [])) ds h) : WLR P w0 m0 N rd n ops i Q l ds h := by
 obtain ⟨o, ho, hok, hnd, rfl⟩ := dstR_ok hd
 refine WLR.step (v := .tup []) (d := o.dst) (ds' := ds) ho hok hnd noneBoth_ok ?_ hk
 have hw : wantedT ops l.get o.guard = some false := by simpa [wantAt, ho] using hw
 simp only [stepR, Fr.fget_tree, hw, stepPut, Fr.put_tree]
theorem WLR.callB (hc : BothOK P w0 both) {ops : Array Oper} {i : Nat} {d : Option Nat} {f : FuncId} {args : List AV} {v : AV} {h1 : AHeap} (hd : dstR N ops i = some d) (hw : wantAt ops l.get i = some true) (hop : opAt P l.eval ops i h = some (.call f args, h1))
  (hcall : both false f args h1 = some (.ret v, h')) (hk : WLR P w0 m0 N rd n ops (i + 1) Q (l.put d v) ds h') : WLR P w0 m0 N rd n ops i Q l ds h := by
 obtain ⟨o, ho, hok, hnd, rfl⟩ := dstR_ok hd
 refine WLR.step (v := v) (d := o.dst) (ds' := ds) ho hok hnd hc ?_ hk
 have hw : wantedT ops l.get o.guard = some true := by simpa [wantAt, ho] using hw
 have hop : opA P l.eval o h = some (.call f args, h1) := by simpa [opAt, ho] using hop
 simp only [stepR, Fr.fget_tree, hw, Fr.eval_tree, hop, stepOutR, hcall, stepRes, stepPut, Fr.put_tree]
def noRnd : Nat → List AV → AHeap → Option (ARes × AHeap) := fun _ _ _ => none
def mkBoth (call : CallF) (rnd : Nat → List AV → AHeap → Option (ARes × AHeap)) : BothF := fun k f args h => match k with
 | false => call f args h
 | true => rnd f args h
theorem both_of_call {call : CallF} (hc : CallOK P w0 call) : BothOK P w0 (mkBoth call noRnd) := ⟨hc, (fun _ _ _ _ _ h => nomatch h)⟩
theorem WLR.call {call : CallF} (hc : CallOK P w0 call) {ops : Array Oper} {i : Nat} {d : Option Nat} {f : FuncId} {args : List AV} {v : AV} {h1 : AHeap} (hd : dstR N ops i = some d) (hw : wantAt ops l.get i = some true) (hop : opAt P l.eval ops i h = some (.call f args, h1))
  (hcall : call f args h1 = some (.ret v, h')) (hk : WLR P w0 m0 N rd n ops (i + 1) Q (l.put d v) ds h') : WLR P w0 m0 N rd n ops i Q l ds h := WLR.callB (both_of_call hc) hd hw hop hcall hk
theorem WLR.round (hc : BothOK P w0 both) {ops : Array Oper} {i : Nat} {d : Option Nat} {b : Nat} {args : List AV} {v : AV} {h1 : AHeap} (hd : dstR N ops i = some d) (hw : wantAt ops l.get i = some true) (hop : opAt P l.eval ops i h = some (.round b args, h1))
  (hcall : both true b args h1 = some (.ret v, h')) (hk : WLR P w0 m0 N rd n ops (i + 1) Q (l.put d v) ds h') : WLR P w0 m0 N rd n ops i Q l ds h := by
 obtain ⟨o, ho, hok, hnd, rfl⟩ := dstR_ok hd
 refine WLR.step (v := v) (d := o.dst) (ds' := ds) ho hok hnd hc ?_ hk
 have hw : wantedT ops l.get o.guard = some true := by simpa [wantAt, ho] using hw
 have hop : opA P l.eval o h = some (.round b args, h1) := by simpa [opAt, ho] using hop
 simp only [stepR, Fr.fget_tree, hw, Fr.eval_tree, hop, stepOutR, hcall, stepRes, stepPut, Fr.put_tree]
theorem WR.range (hc : BothOK P w0 both) {f : Operand} {ps : Array Tmp} {x y : Code} {e : AExit} {l' : Fr} {ds' : DefT} (hr : rangeR P both none N (l.eval f) ps x y ⟨l.tree, ds⟩ h = some (e, ⟨l'.tree, ds'⟩, h'))
  (hq : ∀ (m : Map) (act : Act) (w : World) (e' : Exit), Ext m0 m → RelExit m e e' → RelAct m N ⟨l'.tree, ds'⟩ act → Fits w0 m h' w → Q e' act w) : WR P w0 m0 N none n (.rangeFunc f ps x y) Q l ds h := by
 intro m act w he ha F
 have hev : (⟨l.tree, ds⟩ : AAct).eval f = l.eval f := by rw [Fr.eval_tree]
 refine wpIn_mono (rangeR_ok (rb := none) (f := f) hc ⟨l.tree, ds⟩ h e _ h' (by
  show rangeR P both none N ((⟨l.tree, ds⟩ : AAct).eval f) ps x y ⟨l.tree, ds⟩ h = _
  rw [hev]
  exact hr) none n m act w trivial ha F) ?_
 rintro e' act2 w2 ⟨m2, hx, ha2, F2, hex⟩
 exact hq m2 act2 w2 e' (he.trans hx) hex ha2 F2
end
section
variable {P : Program} {m : Map} {w0 : Base} {w : World} {H H' : AHeap} {both : BothF} {rd rb : Option Nat} {N lf : Nat}
end
def BothAll (P : Program) (both : BothF) : Prop := ∀ w0, BothOK P w0 both
theorem BothAll.says {P : Program} {both : BothF} (h : BothAll P both) : SaysAll P (both false) := SaysAll.of fun w0 => (h w0).call
theorem BothAll.none {P : Program} : BothAll P noneBoth := fun _ => noneBoth_ok
theorem mkBoth_ok {P : Program} {call : CallF} {rnd : Nat → List AV → AHeap → Option (ARes × AHeap)} (hc : SaysAll P call) (hr : ∀ w0, RoundOK P w0 rnd) : BothAll P (mkBoth call rnd) := fun w0 => ⟨hc.ok w0, hr w0⟩
def worldB (cf : BothF → CallF) (rf : BothF → Nat → List AV → AHeap → Option (ARes × AHeap)) : Nat → BothF
 | 0 => noneBoth
 | d + 1 => mkBoth (cf (worldB cf rf d)) (rf (worldB cf rf d))
theorem worldB_ok {P : Program} {cf : BothF → CallF} {rf : BothF → Nat → List AV → AHeap → Option (ARes × AHeap)} (hc : ∀ both, BothAll P both → SaysAll P (cf both)) (hr : ∀ both, BothAll P both → ∀ w0, RoundOK P w0 (rf both)) : ∀ d, BothAll P (worldB cf rf d)
 | 0 => BothAll.none
 | d + 1 => mkBoth_ok (hc _ (worldB_ok hc hr d)) (hr _ (worldB_ok hc hr d))
section
variable {P : Program} {w0 : Base} {m0 : Map} {N : Nat} {rd : Option Nat} {n : Nat} {l l' : Fr} {ds : DefT} {h h' : AHeap} {Q : Exit → Act → World → Prop} {K : Act → World → Prop} {both : BothF} {r : ARes}
abbrev FinM (P : Program) (fn : Func) (w0 : Base) (m0 : Map) (r : ARes) (h' : AHeap) : Exit → Act → World → Prop := bodyPostM Fence.wide 0 P fn (RetOK w0 m0 h' r)
theorem Go.leaveM {fn : Func} (hr : marksR P fn ⟨l.tree, ds⟩ ds h = some (r, h')) : Go w0 m0 N (FinM P fn w0 m0 r h' .ret) l ds h := fun m _ w he ha F =>
 LeavesInM.mono (fun _ _ hh => hh.ext he) _ _ _ (marksR_all _ _ hr m _ ha.defers) (marksR_ok _ h hr m _ w ha.tmps ha.defers F)
theorem says_ofM {f : FuncId} {fn : Func} {args : List AV} (hf : P.funcs[f]? = some fn) {c : Code} (hb : fn.body = some c) (hlen : Nat.ble args.length fn.ntmps = true)
  (hw : ∀ w0 m0, WR P w0 m0 fn.ntmps none 0 c (FinM P fn w0 m0 r h') (argsFr 0 args) [] h) : Says P f args h r h' := by
 intro w0 m w args' ha F
 have hlen := Nat.le_of_ble_eq_true hlen
 have hl := ha.length
 have hra : RelAct m fn.ntmps ⟨(argsFr 0 args).tree, []⟩ { tmps := (⟨args'⟩ : Array Value) ++ Array.replicate (fn.ntmps - (⟨args'⟩ : Array Value).size) undef, defers := [] } := {
  size := by simp; omega
  tmps := fun t v hv => by
   have hv : (argsFr 0 args).tree.get t = some v := hv
   rw [Fr.get_tree] at hv
   obtain ⟨_, hv⟩ := argsFr_get _ _ _ _ hv
   rw [Nat.sub_zero] at hv
   obtain ⟨y, hy, hr⟩ := ha.get t v hv
   have ht : t < args'.length := (List.getElem?_eq_some_iff.1 hy).1
   refine ⟨y, ?_, hr⟩
   simp only
   rw [Array.getElem?_append_left (by simpa using ht)]
   simpa using hy
  defers := .nil }
 exact callsIn_wide.1 (callsIn_of_wp_marks (n := 0) hf hb trivial (hw w0 m m _ w (Ext.refl m) hra F))
theorem RelAct.ofTree {m : Map} {act : Act} {t : T AV} (hs : ∀ i v, l.get i = some v → t.get i = some v) (hr : RelAct m N ⟨t, ds⟩ act) : RelAct m N ⟨l.tree, ds⟩ act where
 size := hr.size
 tmps i := fun v hv => hr.tmps i v (by
  have hv : l.tree.get i = some v := hv
  rw [Fr.get_tree] at hv
  exact hs i v hv)
 defers := hr.defers
theorem codeROK_of {c : Code} {f : AAct → AHeap → CodeT} (hf : ∀ (t : T AV) (ds : DefT) (h : AHeap) (e : AExit) (a' : AAct) (h' : AHeap), f ⟨t, ds⟩ h = some (e, a', h') → ∃ l : Fr, (∀ i v, l.get i = some v → t.get i = some v) ∧ ∀ rd n m0, WR P w0 m0 N rd n c (fun e' act w => Post w0 m0 N e a' h' e' act w) l ds h) (rb : Option Nat) : CodeROK P w0 N rb f c := by
 intro a h e a' h' hr rd n m act w hrb ha F
 obtain ⟨l, hl, hk⟩ := hf a.tmps a.defers h e a' h' hr
 exact hk rd n m m act w (Ext.refl m) (RelAct.ofTree hl ha) F
end
end
end Go.Proofs.Yteecmjmglmpbpaa.Abs
namespace Go.Proofs.Yteecmjmglmpbpaa.Abs
noncomputable section
open Go.RowKit
section
variable {P : Program} {w0 : Base} {m0 : Map} {N : Nat} {rd : Option Nat} {nR : Nat} {l l' : Fr} {ds : DefT} {h h' : AHeap} {Q : Exit → Act → World → Prop} {K : Act → World → Prop} {Y : OutT} {ops : Array Oper} {i : Nat}
theorem WR.seqK {c : Code} (hc : Code.kind c = 1) (hk : ∀ K : Exit → Act → World → Prop, (∀ {ds : DefT} {l : Fr} {h : AHeap}, WR P w0 m0 N rd nR (Code.p2 c) Q l ds h → Go w0 m0 N (K .normal) l ds h) →
  (∀ {id : Nat} {ds : DefT} {l : Fr} {h : AHeap}, Go w0 m0 N (Q (.exit id)) l ds h → Go w0 m0 N (K (.exit id)) l ds h) → (∀ {ds : DefT} {l : Fr} {h : AHeap}, Go w0 m0 N (Q .ret) l ds h → Go w0 m0 N (K .ret) l ds h) →
  (∀ {ds : DefT} {l : Fr} {v : AV} {h : AHeap}, Pan w0 m0 N Q l ds v h → Pan w0 m0 N K l ds v h) → WR P w0 m0 N rd nR (Code.p1 c) K l ds h) : WR P w0 m0 N rd nR c Q l ds h :=
 WR.seq hc (hk _ (fun h => h) (fun h => h) (fun h => h) (fun h => h))
theorem WR.blockK {c : Code} (hc : Code.kind c = 3) (hk : ∀ K : Exit → Act → World → Prop, (∀ {ds : DefT} {l : Fr} {h : AHeap}, Go w0 m0 N (Q .normal) l ds h → Go w0 m0 N (K .normal) l ds h) →
  (∀ {id : Nat} {ds : DefT} {l : Fr} {h : AHeap}, Nat.beq id (Code.num c) = true → Go w0 m0 N (Q .normal) l ds h → Go w0 m0 N (K (.exit id)) l ds h) →
  (∀ {id : Nat} {ds : DefT} {l : Fr} {h : AHeap}, Nat.beq id (Code.num c) = false → Go w0 m0 N (Q (.exit id)) l ds h → Go w0 m0 N (K (.exit id)) l ds h) → (∀ {ds : DefT} {l : Fr} {h : AHeap}, Go w0 m0 N (Q .ret) l ds h → Go w0 m0 N (K .ret) l ds h) →
  (∀ {ds : DefT} {l : Fr} {v : AV} {h : AHeap}, Pan w0 m0 N Q l ds v h → Pan w0 m0 N K l ds v h) → WR P w0 m0 N rd nR (Code.p1 c) K l ds h) : WR P w0 m0 N rd nR c Q l ds h :=
 WR.block hc (hk _ (fun h => h) (fun e h => Go.bS e h) (fun e h => Go.bO e h) (fun h => h) (fun h => h))
theorem WR.loopK {c : Code} (hc : Code.kind c = 4) (hk : ∀ (I : Act → World → Prop) (K : Exit → Act → World → Prop), (∀ {ds : DefT} {l : Fr} {h : AHeap}, WR P w0 m0 N rd nR (Code.p1 c) K l ds h → Go w0 m0 N I l ds h) →
  (∀ {ds : DefT} {l : Fr} {h : AHeap}, Go w0 m0 N I l ds h → Go w0 m0 N (K .normal) l ds h) → (∀ {id : Nat} {ds : DefT} {l : Fr} {h : AHeap}, Go w0 m0 N (Q (.exit id)) l ds h → Go w0 m0 N (K (.exit id)) l ds h) →
  (∀ {ds : DefT} {l : Fr} {h : AHeap}, Go w0 m0 N (Q .ret) l ds h → Go w0 m0 N (K .ret) l ds h) → (∀ {ds : DefT} {l : Fr} {v : AV} {h : AHeap}, Pan w0 m0 N Q l ds v h → Pan w0 m0 N K l ds v h) →
  Go w0 m0 N I l ds h) : WR P w0 m0 N rd nR c Q l ds h :=
 WR.loop hc (hk _ _ (fun h => Go.roundR h) (fun h => h) (fun h => h) (fun h => h) (fun h => h))
end
section
variable {P : Program} {w0 : Base} {m0 : Map} {N : Nat} {rd : Option Nat} {nR : Nat} {l l' : Fr} {ds : DefT} {h : AHeap} {Q : Exit → Act → World → Prop} {K : Act → World → Prop} {Y : OutT} {ops : Array Oper} {i : Nat}
theorem WLR.a (d : Option Nat) (v : AV) (h' : AHeap) (hk : WLR P w0 m0 N rd nR ops (i + 1) Q (l.put d v) ds h') (h1 : dstR N ops i = some d := by kernel_rfl) (h2 : wantAt ops l.get i = some true := by kernel_rfl) (h3 : opAt P l.eval ops i h = some (.val v, h') := by kernel_rfl) : WLR P w0 m0 N rd nR ops i Q l ds h := WLR.val h1 h2 h3 hk
theorem WLR.b (d : Option Nat) (v : AV) (h' : AHeap) (x : Y = some (.val v, h')) (hk : WLR P w0 m0 N rd nR ops (i + 1) Q (l.put d v) ds h') (h1 : dstR N ops i = some d := by kernel_rfl) (h2 : wantAt ops l.get i = some true := by kernel_rfl) (h3 : opAt P l.eval ops i h = Y := by kernel_rfl) : WLR P w0 m0 N rd nR ops i Q l ds h := WLR.val h1 h2 (h3.trans x) hk
theorem WLR.e (h' : AHeap) (x : Y = some (.skip, h')) (hk : WLR P w0 m0 N rd nR ops (i + 1) Q l ds h') (h1 : dstR N ops i = some none := by kernel_rfl) (h2 : wantAt ops l.get i = some true := by kernel_rfl) (h3 : opAt P l.eval ops i h = Y := by kernel_rfl) : WLR P w0 m0 N rd nR ops i Q l ds h := WLR.eff h1 h2 (h3.trans x) hk
theorem WLR.o (d : Option Nat) (hk : WLR P w0 m0 N rd nR ops (i + 1) Q (l.put d (.tup [])) ds h) (h1 : dstR N ops i = some d := by kernel_rfl) (h2 : wantAt ops l.get i = some false := by kernel_rfl) : WLR P w0 m0 N rd nR ops i Q l ds h := WLR.not h1 h2 hk
theorem WLR.c {call : CallF} (hc : CallOK P w0 call) (d : Option Nat) {f : FuncId} {args : List AV} {v : AV} {h1 h' : AHeap} (hcall : call f args h1 = some (.ret v, h')) (hk : WLR P w0 m0 N rd nR ops (i + 1) Q (l.put d v) ds h') (h2 : dstR N ops i = some d := by kernel_rfl) (h3 : wantAt ops l.get i = some true := by kernel_rfl) (h4 : opAt P l.eval ops i h = some (.call f args, h1) := by kernel_rfl) : WLR P w0 m0 N rd nR ops i Q l ds h := WLR.call hc h2 h3 h4 hcall hk
theorem WLR.n (hk : Go w0 m0 N (Q .normal) l ds h) (hi : Nat.beq ops.size i = true := by kernel_rfl) : WLR P w0 m0 N rd nR ops i Q l ds h := WLR.nil hi hk
theorem WR.r {c : Code} (hk : WLR P w0 m0 N rd nR (Code.ops c) 0 Q l ds h) (hc : Code.kind c = 7 := by kernel_rfl) : WR P w0 m0 N rd nR c Q l ds h := WR.region hc hk
theorem WR.s {c : Code} (hk : ∀ K : Exit → Act → World → Prop, (∀ {ds : DefT} {l : Fr} {h : AHeap}, WR P w0 m0 N rd nR (Code.p2 c) Q l ds h → Go w0 m0 N (K .normal) l ds h) →
  (∀ {id : Nat} {ds : DefT} {l : Fr} {h : AHeap}, Go w0 m0 N (Q (.exit id)) l ds h → Go w0 m0 N (K (.exit id)) l ds h) → (∀ {ds : DefT} {l : Fr} {h : AHeap}, Go w0 m0 N (Q .ret) l ds h → Go w0 m0 N (K .ret) l ds h) →
  (∀ {ds : DefT} {l : Fr} {v : AV} {h : AHeap}, Pan w0 m0 N Q l ds v h → Pan w0 m0 N K l ds v h) → WR P w0 m0 N rd nR (Code.p1 c) K l ds h) (hc : Code.kind c = 1 := by kernel_rfl) : WR P w0 m0 N rd nR c Q l ds h := WR.seqK hc hk
theorem WR.t {c : Code} (hk : WR P w0 m0 N rd nR (Code.p1 c) Q l ds h) (hc : Code.kind c = 2 := by kernel_rfl) (hv : l.eval (Code.opd c) = some (.bool true) := by kernel_rfl) : WR P w0 m0 N rd nR c Q l ds h := WR.cond_true hc hv hk
theorem WR.f {c : Code} (hk : WR P w0 m0 N rd nR (Code.p2 c) Q l ds h) (hc : Code.kind c = 2 := by kernel_rfl) (hv : l.eval (Code.opd c) = some (.bool false) := by kernel_rfl) : WR P w0 m0 N rd nR c Q l ds h := WR.cond_false hc hv hk
end
section
variable {P : Program} {w0 : Base} {m0 : Map} {N : Nat} {rd : Option Nat} {nR : Nat} {l l' : Fr} {ds : DefT} {h : AHeap} {Q : Exit → Act → World → Prop} {K : Act → World → Prop} {Y : OutT} {ops : Array Oper} {i : Nat} {r : ARes × AHeap} {call : CallF}
end
end
end Go.Proofs.Yteecmjmglmpbpaa.Abs
namespace Go.Proofs.Yteecmjmglmpbpaa.Abs
noncomputable section
open Go.RowKit
def isRng : Code → Bool
 | .rangeFunc _ _ _ _ => true
 | _ => false
def Code.rgo : Code → Operand
 | .rangeFunc f _ _ _ => f
 | _ => .tmp 0
def Code.rgp : Code → Array Tmp
 | .rangeFunc _ ps _ _ => ps
 | _ => #[]
def Code.r1 : Code → Code
 | .rangeFunc _ _ x _ => x
 | _ => .skip
def Code.r2 : Code → Code
 | .rangeFunc _ _ _ y => y
 | _ => .skip
abbrev dmark (D : Nat) : FuncId × List AV × List AV := (0, [], [.mrk D])
def rngX (P : Program) (both : BothF) (N : Nat) (v : AV) (c : Code) (t : T AV) (ds : DefT) (h : AHeap) : CodeT := rangeR P both none N (some v) (Code.rgp c) (Code.r1 c) (Code.r2 c) ⟨t, ds⟩ h
def rngK (x : CodeT) (kn kr : AHeap → R) (ke : Nat → AHeap → R) : R := match x with
 | some (.normal, _, h) => kn h
 | some (.ret, _, h) => kr h
 | some (.exit id, _, h) => ke id h
 | _ => none
theorem rng_frame {P : Program} {both : BothF} {N : Nat} {f : Option AV} {ps : Array Tmp} {x y : Code} {t : T AV} {ds : DefT} {h h' : AHeap} {e : AExit} {a' : AAct} (hr : rangeR P both none N f ps x y ⟨t, ds⟩ h = some (e, a', h')) : a' = ⟨t, dmark h.next :: ds⟩ := by
 unfold rangeR at hr
 split at hr
 ·split at hr
  ·simp only [enterR] at hr
   unfold endR at hr
   split at hr
   ·split at hr
    ·split at hr
     ·cases hr
     ·split at hr <;> · simp only [Option.some.injEq, Prod.mk.injEq] at hr; exact hr.2.1.symm
    ·cases hr
   ·cases hr
  ·cases hr
 ·cases hr
section
variable {P : Program} {w0 : Base} {m0 : Map} {N : Nat} {n : Nat} {l l' : Fr} {ds : DefT} {h : AHeap} {Q : Exit → Act → World → Prop} {both : BothF} {r : ARes × AHeap} {kn kr : AHeap → R} {ke : Nat → AHeap → R} {v : AV}
theorem WR.rng (hc : BothAll P both) {c : Code} (z : rngK (rngX P both N v c l.tree ds h) kn kr ke = some r)
  (hn : ∀ h', kn h' = some r → Go w0 m0 N (Q .normal) l (dmark h.next :: ds) h') (hr : ∀ h', kr h' = some r → Go w0 m0 N (Q .ret) l (dmark h.next :: ds) h')
  (he : ∀ id h', ke id h' = some r → Go w0 m0 N (Q (.exit id)) l (dmark h.next :: ds) h') (hk : isRng c = true := by kernel_rfl) (hv : l.eval (Code.rgo c) = some v := by kernel_rfl) : WR P w0 m0 N none n c Q l ds h := by
 cases c with
 | rangeFunc f ps x y =>
  have hv : l.eval f = some v := hv
  unfold rngK rngX at z
  have hx : rangeR P both none N (some v) (Code.rgp (.rangeFunc f ps x y)) (Code.r1 (.rangeFunc f ps x y)) (Code.r2 (.rangeFunc f ps x y)) ⟨l.tree, ds⟩ h = rangeR P both none N (l.eval f) ps x y ⟨l.tree, ds⟩ h := by rw [hv]; rfl
  rw [hx] at z
  cases hr2 : rangeR P both none N (l.eval f) ps x y ⟨l.tree, ds⟩ h with
  | none => rw [hr2] at z; cases z
  | some p =>
   obtain ⟨e, a', h'⟩ := p
   have ha := rng_frame hr2
   subst ha
   rw [hr2] at z
   refine WR.range (l' := l) (hc w0) hr2 fun m act w e' hx hex ha F => ?_
   cases hex with
   | normal => exact hn h' z m act w hx ha F
   | ret => exact hr h' z m act w hx ha F
   | exit id => exact he id h' z m act w hx ha F
   | goto l => cases z
   | panic hv => cases z
 | _ => cases hk
def marksH : DefT → AHeap → Option AHeap
 | [], h => some h
 | (0, [], [.mrk D]) :: ds, h => match h.get D with
  | some (.obj .dfr) => marksH ds (h.put D (.obj .shut))
  | _ => none
 | _, _ => none
def marksK (ds : DefT) (h : AHeap) (k : AHeap → R) : R := match marksH ds h with
 | some h' => k h'
 | none => none
theorem marksR_H {fn : Func} {a : AAct} : ∀ (ds : DefT) (h h' : AHeap), marksH ds h = some h' → marksR P fn a ds h = retA h' (resAll P a h' fn.results.toList)
 | [], h, h', e => by
  simp only [marksH, Option.some.injEq] at e
  subst e
  rfl
 | d :: ds, h, h', e => by
  unfold marksH at e
  split at e
  ·rename_i e'
   cases e'
  ·rename_i D ds2 _ e'
   simp only [List.cons.injEq] at e'
   obtain ⟨rfl, rfl⟩ := e'
   split at e
   ·rename_i hb
    have ih := marksR_H (fn := fn) (a := a) _ _ _ e
    simp only [marksR, hb]
    exact ih
   ·cases e
  ·cases e
theorem Go.leaveK {fn : Func} {rR : ARes} {hR : AHeap} {k : AHeap → R} (z : marksK ds h k = some (rR, hR)) (hk : ∀ h', k h' = some (rR, hR) → retA h' (resGs P l.get h' fn.results.toList) = some (rR, hR)) : Go w0 m0 N (FinM P fn w0 m0 rR hR .ret) l ds h := by
 unfold marksK at z
 split at z
 ·rename_i h' hm
  refine Go.leaveM ?_
  rw [marksR_H _ _ _ hm]
  have := hk h' z
  rw [← resGs_eq]
  show retA h' (resGs P l.tree.get h' _) = _
  rw [Fr.fget_tree]
  exact this
 ·cases z
end
theorem ret_of {P : Program} {g : Nat → Option AV} {h : AHeap} {fn : Func} {rs : List ResultVar} {vs : List AV} {v : AV} (hrs : fn.results.toList = rs) (hv : resGs P g h rs = some vs) (hr : retA h (some vs) = some (.ret v, h)) : retA h (resGs P g h fn.results.toList) = some (.ret v, h) := by
 rw [hrs, hv]
 exact hr
theorem ifB_id {id k : Nat} {a : R} {r : ARes × AHeap} (z : ifB (Nat.beq id k) a none = some r) : id = k ∧ a = some r := by
 cases hb : Nat.beq id k with
 | true => rw [hb] at z; exact ⟨Nat.eq_of_beq_eq_true hb, z⟩
 | false => rw [hb] at z; cases z
def dynB (P : Program) (both : BothF) (f : AV) (args : List AV) (h : AHeap) : R := match callV P h args (some f) with
 | some (.call g xs, h1) => both false g xs h1
 | some (.round b xs, h1) => both true b xs h1
 | some (.val v, h1) => some (.ret v, h1)
 | _ => none
section
variable {P : Program} {w0 : Base} {m0 : Map} {N : Nat} {rd : Option Nat} {n : Nat} {l : Fr} {ds : DefT} {h h' : AHeap} {Q : Exit → Act → World → Prop} {both : BothF}
theorem WLR.dyn (hc : BothAll P both) {ops : Array Oper} {i : Nat} {d : Option Nat} {f v : AV} {args : List AV} (hcall : dynB P both f args h = some (.ret v, h')) (hk : WLR P w0 m0 N rd n ops (i + 1) Q (l.put d v) ds h') (hd : dstR N ops i = some d := by kernel_rfl) (hw : wantAt ops l.get i = some true := by kernel_rfl)
  (hop : opAt P l.eval ops i h = callV P h args (some f) := by kernel_rfl) : WLR P w0 m0 N rd n ops i Q l ds h := by
 unfold dynB at hcall
 split at hcall
 ·rename_i g xs h1 e
  exact WLR.callB (hc w0) hd hw (hop.trans e) hcall hk
 ·rename_i b xs h1 e
  exact WLR.round (hc w0) hd hw (hop.trans e) hcall hk
 ·rename_i v1 h1 e
  cases hcall
  exact WLR.val hd hw (hop.trans e) hk
 ·cases hcall
end
def decE : ARes → AExit
 | .ret (.int _ z) => match z with
  | 0 => .normal
  | 1 => .ret
  | z => .exit (z - 2).toNat
 | _ => .normal
def tupFr (ts : List Nat) : ARes → Fr
 | .ret (.tup vs) => ts.zip vs
 | _ => []
section
variable {P : Program} {w0 : Base} {m0 : Map} {N : Nat} {l l' : Fr} {ds : DefT} {h : AHeap}
theorem Go.postN (hs : l.sub l') : Go w0 m0 N (Post w0 m0 N .normal ⟨l'.tree, ds⟩ h .normal) l ds h := fun m _ _ he ha F => ⟨m, he, ha.weaken hs, F, .normal⟩
theorem Go.postE {id : Nat} : Go w0 m0 N (Post w0 m0 N (.exit id) ⟨Fr.tree [], ds⟩ h (.exit id)) l ds h := fun m _ _ he ha F => ⟨m, he, ha.weaken (Fr.sub_nil _), F, .exit id⟩
end
section
variable {P : Program} {both : BothF} {N : Nat} {c : Code} {t : T AV} {ds : DefT} {h h2 : AHeap} {kn kr : AHeap → R} {ke : Nat → AHeap → R} {Q : ARes → AHeap → Prop} {g : FuncId} {first cap : List AV} {v : AV} {q : ALoop}
def rngH (N : Nat) (c : Code) (t : T AV) (h : AHeap) : AHeap := (h.new (.obj .dfr)).new (.obj (.loop ⟨.ready, .none, t, N, Code.rgp c, Code.r1 c, Code.r2 c, h.next⟩))
theorem rngX_of (hb : hasBody P g = true) (e : both false g (first ++ [.yld (h.next + 1)] ++ cap) (rngH N c t h) = some (.ret v, h2)) (hq : h2.get (h.next + 1) = some (.obj (.loop q))) (hs : q.st ≠ .busy) :
  rngX P both N (.fn g first cap) c t ds h = (match q.pend with
   | .none => some (.normal, ⟨t, dmark h.next :: ds⟩, h2.put (h.next + 1) (.obj (.loop { q with st := .exhausted })))
   | .ret => some (.ret, ⟨t, dmark h.next :: ds⟩, h2.put (h.next + 1) (.obj (.loop { q with st := .exhausted })))
   | .exit id => some (.exit id, ⟨t, dmark h.next :: ds⟩, h2.put (h.next + 1) (.obj (.loop { q with st := .exhausted })))) := by
 unfold rngX rangeR
 simp only [hb, enterR]
 unfold rngH at e
 rw [e]
 unfold endR
 simp only [hq]
 cases hst : q.st with
 | busy => exact absurd hst hs
 | _ => rfl
theorem Wp.rngN (hb : hasBody P g = true) (e : both false g (first ++ [.yld (h.next + 1)] ++ cap) (rngH N c t h) = some (.ret v, h2)) (hq : h2.get (h.next + 1) = some (.obj (.loop q))) (hs : q.st ≠ .busy) (hp : q.pend = .none) (hk : Wp (kn (h2.put (h.next + 1) (.obj (.loop { q with st := .exhausted })))) Q) : Wp (rngK (rngX P both N (.fn g first cap) c t ds h) kn kr ke) Q := by
 rw [rngX_of hb e hq hs]
 rw [hp] at hk ⊢
 exact hk
theorem Wp.rngR (hb : hasBody P g = true) (e : both false g (first ++ [.yld (h.next + 1)] ++ cap) (rngH N c t h) = some (.ret v, h2)) (hq : h2.get (h.next + 1) = some (.obj (.loop q))) (hs : q.st ≠ .busy) (hp : q.pend = .ret) (hk : Wp (kr (h2.put (h.next + 1) (.obj (.loop { q with st := .exhausted })))) Q) : Wp (rngK (rngX P both N (.fn g first cap) c t ds h) kn kr ke) Q := by
 rw [rngX_of hb e hq hs]
 rw [hp] at hk ⊢
 exact hk
theorem Wp.rngE {id : Nat} (hb : hasBody P g = true) (e : both false g (first ++ [.yld (h.next + 1)] ++ cap) (rngH N c t h) = some (.ret v, h2)) (hq : h2.get (h.next + 1) = some (.obj (.loop q))) (hs : q.st ≠ .busy) (hp : q.pend = .exit id) (hk : Wp (ke id (h2.put (h.next + 1) (.obj (.loop { q with st := .exhausted })))) Q) : Wp (rngK (rngX P both N (.fn g first cap) c t ds h) kn kr ke) Q := by
 rw [rngX_of hb e hq hs]
 rw [hp] at hk ⊢
 exact hk
end
end
end Go.Proofs.Yteecmjmglmpbpaa.Abs
namespace Go.Proofs.Yteecmjmglmpbpaa.Abs
noncomputable section
open Go.RowKit
structure Site where
 N : Nat
 code : Code
 run : BothF → AAct → AHeap → CodeT
open Classical in
def Site.ok (P : Program) (s : Site) : Prop := ∀ both, BothAll P both → ∀ w0 rb, CodeROK P w0 s.N rb (s.run both) s.code
open Classical in
def decA (ts : List Nat) (ds : DefT) : R → CodeT
 | some (r, h) => some (.normal, ⟨Fr.tree (tupFr ts r), ds⟩, h)
 | none => none
def decB (ds : DefT) : R → CodeT
 | some (r, h) => some (decE r, ⟨Fr.tree [], ds⟩, h)
 | none => none
theorem decA_some {ts : List Nat} {ds : DefT} {x : R} {e : AExit} {a' : AAct} {h' : AHeap} (z : decA ts ds x = some (e, a', h')) : ∃ r, x = some (r, h') ∧ e = .normal ∧ a' = ⟨Fr.tree (tupFr ts r), ds⟩ := by
 cases x with
 | none => cases z
 | some p =>
  obtain ⟨r, h⟩ := p
  simp only [decA, Option.some.injEq, Prod.mk.injEq] at z
  obtain ⟨rfl, rfl, rfl⟩ := z
  exact ⟨r, rfl, rfl, rfl⟩
theorem decB_some {ds : DefT} {x : R} {e : AExit} {a' : AAct} {h' : AHeap} (z : decB ds x = some (e, a', h')) : ∃ r, x = some (r, h') ∧ e = decE r ∧ a' = ⟨Fr.tree [], ds⟩ := by
 cases x with
 | none => cases z
 | some p =>
  obtain ⟨r, h⟩ := p
  simp only [decB, Option.some.injEq, Prod.mk.injEq] at z
  obtain ⟨rfl, rfl, rfl⟩ := z
  exact ⟨r, rfl, rfl, rfl⟩
end
end Go.Proofs.Yteecmjmglmpbpaa.Abs
namespace Go.Proofs.Yteecmjmglmpbpaa.Abs
noncomputable section
open Go.RowKit
def orF (a b : CallF) : CallF := fun f args h => match a f args h with
 | some r => some r
 | none => b f args h
theorem orF_ok {P : Program} {a b : CallF} (ha : SaysAll P a) (hb : SaysAll P b) : SaysAll P (orF a b) := by
 intro f args h r h' e
 unfold orF at e
 split at e
 ·rename_i r' e2
  cases e
  exact ha _ _ _ _ _ e2
 ·exact hb _ _ _ _ _ e
theorem orF_l {a b : CallF} {f : FuncId} {args : List AV} {h : AHeap} {x : ARes × AHeap} (e : a f args h = some x) : orF a b f args h = some x := by
 unfold orF
 rw [e]
theorem orF_r {a b : CallF} {f : FuncId} {args : List AV} {h : AHeap} (e : a f args h = none) : orF a b f args h = b f args h := by
 unfold orF
 rw [e]
theorem callOf_none {f : FuncId} : ∀ (l : List (FuncId × FnT)) (args : List AV) (h : AHeap), (l.all fun p => !Nat.beq p.1 f) = true → callOf l f args h = none
 | [], _, _, _ => rfl
 | (g, s) :: l, args, h, e => by
  rw [List.all_cons, Bool.and_eq_true] at e
  unfold callOf
  have e1 : Nat.beq g f = false := by simpa using e.1
  rw [e1]
  exact callOf_none l args h e.2
def Code.tag : Code → Nat
 | .region id _ _ => id + 1
 | .seq a b => Code.tag a * 3 + Code.tag b
 | .cond _ a b => Code.tag a * 5 + Code.tag b
 | .block _ a => Code.tag a
 | .loop a => Code.tag a
 | _ => 0
structure LSite where
 N : Nat
 c : Code
 sa : List Nat
 fa : BothF → FnT
 ts : List Nat
 fb : BothF → FnT
open Classical in
def lsite (sites : List LSite) (q : ALoop) : Option LSite := sites.find? fun s => Nat.beq s.N q.N && (Nat.beq (Code.tag (Code.r2 s.c)) (Code.tag q.body) && decide (Code.r1 s.c = q.assign ∧ Code.r2 s.c = q.body))
theorem lsite_some {sites : List LSite} {q : ALoop} {s : LSite} (h : lsite sites q = some s) : s ∈ sites ∧ s.N = q.N ∧ Code.r1 s.c = q.assign ∧ Code.r2 s.c = q.body := by
 have h1 := List.mem_of_find?_eq_some h
 have h2 := List.find?_some h
 simp only [Bool.and_eq_true, decide_eq_true_eq] at h2
 exact ⟨h1, Nat.eq_of_beq_eq_true h2.1, h2.2.2.1, h2.2.2.2⟩
open Classical in
theorem lsite_hit {s : LSite} {l : List LSite} {q : ALoop} (h1 : s.N = q.N) (h2 : Code.r1 s.c = q.assign) (h3 : Code.r2 s.c = q.body) : lsite (s :: l) q = some s := by
 unfold lsite
 rw [List.find?_cons_of_pos]
 rw [h1, h2, h3, Nat.beq_refl, Nat.beq_refl]
 exact decide_eq_true ⟨rfl, rfl⟩
def slotsC (t : T AV) : List Nat → Option (List AV)
 | [] => some []
 | i :: l => match t.get i, slotsC t l with
  | some v, some vs => some (v :: vs)
  | _, _ => none
theorem slotsC_get {t : T AV} : ∀ {l : List Nat} {vs : List AV}, slotsC t l = some vs → ∀ i v, Fr.get (l.zip vs) i = some v → t.get i = some v
 | [], vs, h, i, v, e => by
  cases h
  cases e
 | j :: l, vs, h, i, v, e => by
  unfold slotsC at h
  split at h
  ·rename_i w ws e1 e2
   cases h
   rw [List.zip_cons_cons] at e
   unfold Fr.get at e
   split at e
   ·rename_i hb
    have := Nat.eq_of_beq_eq_true hb
    subst this
    cases e
    exact e1
   ·exact slotsC_get e2 i v e
  ·cases h
def LSite.A (s : LSite) (both : BothF) : AAct → AHeap → CodeT := fun a h => match slotsC a.tmps s.sa with
 | some vs => decA s.ts a.defers (s.fa both vs h)
 | none => none
def LSite.B (s : LSite) (both : BothF) : AAct → AHeap → CodeT := fun a h => match slotsC a.tmps s.ts with
 | some vs => decB a.defers (s.fb both vs h)
 | none => none
structure LSite.ok (P : Program) (s : LSite) : Prop where
 A : ∀ {both : BothF}, BothAll P both → ∀ {vs : List AV} {h : AHeap} {r : ARes} {h' : AHeap}, s.fa both vs h = some (r, h') → ∀ (w0 : Base) (m0 : Map) (rd : Option Nat) (n : Nat) (ds : DefT), WR P w0 m0 s.N rd n (Code.r1 s.c) (Post w0 m0 s.N .normal ⟨Fr.tree (tupFr s.ts r), ds⟩ h') (s.sa.zip vs) ds h
 B : ∀ {both : BothF}, BothAll P both → ∀ {vs : List AV} {h : AHeap} {r : ARes} {h' : AHeap}, s.fb both vs h = some (r, h') → ∀ (w0 : Base) (m0 : Map) (rd : Option Nat) (n : Nat) (ds : DefT), WR P w0 m0 s.N rd n (Code.r2 s.c) (Post w0 m0 s.N (decE r) ⟨Fr.tree [], ds⟩ h') (s.ts.zip vs) ds h
theorem LSite.okA {P : Program} {s : LSite} (hs : s.ok P) {both : BothF} (hc : BothAll P both) (w0 : Base) (rb : Option Nat) : CodeROK P w0 s.N rb (s.A both) (Code.r1 s.c) := by
 refine codeROK_of (fun t ds h e a' h' hr => ?_) rb
 unfold LSite.A at hr
 split at hr
 ·rename_i vs hv
  obtain ⟨r, e1, rfl, rfl⟩ := decA_some hr
  exact ⟨s.sa.zip vs, slotsC_get hv, fun rd n m0 => hs.A hc e1 w0 m0 rd n ds⟩
 ·cases hr
theorem LSite.okB {P : Program} {s : LSite} (hs : s.ok P) {both : BothF} (hc : BothAll P both) (w0 : Base) (rb : Option Nat) : CodeROK P w0 s.N rb (s.B both) (Code.r2 s.c) := by
 refine codeROK_of (fun t ds h e a' h' hr => ?_) rb
 unfold LSite.B at hr
 split at hr
 ·rename_i vs hv
  obtain ⟨r, e1, rfl, rfl⟩ := decB_some hr
  exact ⟨s.ts.zip vs, slotsC_get hv, fun rd n m0 => hs.B hc e1 w0 m0 rd n ds⟩
 ·cases hr
def roundQ (fa fb : ALoop → AAct → AHeap → CodeT) (b : Nat) (args : List AV) (h : AHeap) : Option (ARes × AHeap) := match h.get b with
 | some (.obj (.loop r)) => match putPs r.N r.ps.toList args r.tmps with
  | some t => midRound (fb r) b (fa r ⟨t, []⟩ h)
  | none => none
 | _ => none
theorem roundQ_ok {P : Program} {w0 : Base} {fa fb : ALoop → AAct → AHeap → CodeT} (ha : ∀ (q : ALoop) (b : Nat), CodeROK P w0 q.N (some b) (fa q) q.assign) (hb : ∀ (q : ALoop) (b : Nat), CodeROK P w0 q.N (some b) (fb q) q.body) : RoundOK P w0 (roundQ fa fb) := by
 intro b args h r h' hr m w args' g r' hra F hmb hl hlen rd n
 unfold roundQ at hr
 split at hr
 ·rename_i rr hb0
  split at hr
  ·rename_i t ht
   obtain ⟨_, _, _, r2, k1, k2, k3, k4, k5, k6, k7, k8, k9⟩ := F.obj _ _ _ _ _ hb0 hmb
   rw [hl] at k1
   cases k1
   have hfr := putPs_ok rr.ps.toList args args' rr.tmps t r'.tmps ht hra k4 k5
   have hz : (r'.params.zip ⟨args'⟩).foldl (fun tmps (x : Tmp × Value) => tmps.setIfInBounds x.1 x.2) r'.tmps = (rr.ps.toList.zip args').foldl (fun tmps (p : Tmp × Value) => tmps.setIfInBounds p.1 p.2) r'.tmps := by
    rw [k6, ← Array.foldl_toList, Array.toList_zip]
   rw [← hz] at hfr
   refine roundIn_of_wpIn trivial ?_
   have hrel : RelAct m rr.N ⟨t, []⟩ { tmps := (r'.params.zip ⟨args'⟩).foldl (fun tmps (x : Tmp × Value) => tmps.setIfInBounds x.1 x.2) r'.tmps, defers := [] } := ⟨hfr.1, fun i v hv => hfr.2 i v hv, .nil⟩
   unfold midRound at hr
   split at hr
   ·rename_i a1 h1 hcode
    have h1w := ha rr b _ _ _ _ _ hcode (some g) n m _ w hmb hrel F
    rw [k7]
    refine wpIn_mono h1w ?_
    rintro e1 act1 w1 ⟨m1, hx1, ha1, F1, hex⟩
    cases hex
    split at hr
    ·rename_i r1 hb1
     split at hr
     ·rename_i hst
      have hmb1 := hx1.le _ _ hmb
      obtain ⟨r1', q1, q2, q3, q4, F2⟩ := F1.reLoop hb1 hmb1 .busy r1.pend
      rw [← q3] at F2
      refine ⟨_, run_beginRound q1 (by rw [q2]; exact hst), ?_⟩
      unfold endRound at hr
      split at hr
      ·rename_i e3 a3 h3 hbody
       split at hr
       ·rename_i j hj
        split at hr
        ·rename_i r3 hb3
         simp only [Option.some.injEq, Prod.mk.injEq] at hr
         obtain ⟨rfl, rfl⟩ := hr
         have h2w := hb rr b _ _ _ _ _ hbody (some g) n m1 _ _ hmb1 ha1 F2
         rw [k8]
         refine wpIn_mono h2w ?_
         rintro e4 act4 w4 ⟨m4, hx4, ha4, F4, hex⟩
         have hmb4 := hx4.le _ _ hmb1
         obtain ⟨r3', p1, p2, p3, p4, F5⟩ := F4.reLoop hb3 hmb4 (if j.isNone then .ready else .done) j
         have hx := hx1.trans hx4
         cases hex with
         | normal =>
          simp only [jumpOf, Option.some.injEq] at hj
          subst hj
          exact ⟨_, _, run_endRound none p1, m4, hx, F5, _, rfl, .bool _⟩
         | ret =>
          simp only [jumpOf, Option.some.injEq] at hj
          subst hj
          exact ⟨_, _, run_endRound (some .ret) p1, m4, hx, F5, _, rfl, .bool _⟩
         | exit id =>
          simp only [jumpOf, Option.some.injEq] at hj
          subst hj
          exact ⟨_, _, run_endRound (some (.exit id)) p1, m4, hx, F5, _, rfl, .bool _⟩
         | goto l => cases hj
         | panic hv => cases hj
        ·cases hr
       ·cases hr
      ·cases hr
     ·cases hr
    ·cases hr
   ·cases hr
  ·cases hr
 ·cases hr
def roundL (sites : List LSite) (both : BothF) : Nat → List AV → AHeap → Option (ARes × AHeap) := roundQ
 (fun q => match lsite sites q with
  | some s => s.A both
  | none => fun _ _ => none)
 (fun q => match lsite sites q with
  | some s => s.B both
  | none => fun _ _ => none)
theorem roundL_ok {P : Program} {sites : List LSite} (hs : ∀ s ∈ sites, s.ok P) {both : BothF} (hc : BothAll P both) (w0 : Base) : RoundOK P w0 (roundL sites both) := by
 refine roundQ_ok (fun q b => ?_) (fun q b => ?_)
 ·cases hf : lsite sites q with
  | none => exact fun _ _ _ _ _ e => nomatch e
  | some s =>
   obtain ⟨h1, h2, h3, _⟩ := lsite_some hf
   rw [← h2, ← h3]
   exact LSite.okA (hs s h1) hc w0 (some b)
 ·cases hf : lsite sites q with
  | none => exact fun _ _ _ _ _ e => nomatch e
  | some s =>
   obtain ⟨h1, h2, _, h4⟩ := lsite_some hf
   rw [← h2, ← h4]
   exact LSite.okB (hs s h1) hc w0 (some b)
def worldL (sites : List LSite) (top : BothF → List (FuncId × FnT)) (base : CallF) : Nat → BothF := worldB (fun both => orF (callOf (top both)) base) (roundL sites)
theorem worldL_ok {P : Program} {sites : List LSite} (hs : ∀ s ∈ sites, s.ok P) {top : BothF → List (FuncId × FnT)} (ht : ∀ both, BothAll P both → SaysAll P (callOf (top both))) {base : CallF} (hb : SaysAll P base) (d : Nat) : BothAll P (worldL sites top base d) :=
 worldB_ok (fun _ hc => orF_ok (ht _ hc) hb) (fun _ hc w0 => roundL_ok hs hc w0) d
section
variable {sites : List LSite} {top : BothF → List (FuncId × FnT)} {base : CallF} {d : Nat} {f : FuncId} {args : List AV} {h : AHeap} {x : ARes × AHeap}
theorem worldL_top (e : callOf (top (worldL sites top base d)) f args h = some x) : worldL sites top base (d + 1) false f args h = some x := orF_l e
theorem worldL_base (e : callOf (top (worldL sites top base d)) f args h = none) : worldL sites top base (d + 1) false f args h = base f args h := orF_r e
end
def recQ (s : LoopState) (j : AJump) (N : Nat) (c : Code) (t : T AV) (D : Nat) : AObj := .obj (.loop ⟨s, j, t, N, Code.rgp c, Code.r1 c, Code.r2 c, D⟩)
theorem rngH_rec (N : Nat) (c : Code) (t : T AV) (h : AHeap) : (rngH N c t h).get (h.next + 1) = some (recQ .ready .none N c t h.next) := get_new_same _
theorem rngH_mark (N : Nat) (c : Code) (t : T AV) (h : AHeap) : (rngH N c t h).get h.next = some (.obj .dfr) := by
 refine (get_new_other _ ?_).trans (get_new_same _)
 show h.next + 1 ≠ h.next
 omega
theorem rngH_next (N : Nat) (c : Code) (t : T AV) (h : AHeap) : (rngH N c t h).next = h.next + 2 := rfl
theorem rngH_tch (S : List Nat) (N : Nat) (c : Code) (t : T AV) (h : AHeap) : Tch S h (rngH N c t h) := (Tch.new S h _).trans (Tch.new S _ _)
def jumpZ (z : Int) : AJump := match decE (.ret (.int .i64 z)) with
 | .ret => .ret
 | .exit id => .exit id
 | _ => .none
def stZ (j : AJump) : LoopState := if j.isNone then .ready else .done
theorem jumpOf_decE (k : IntKind) (z : Int) : jumpOf (decE (.ret (.int k z))) = some (jumpZ z) := by
 show jumpOf (match z with
  | 0 => AExit.normal
  | 1 => .ret
  | z => .exit (z - 2).toNat) = some (match (match z with
  | 0 => AExit.normal
  | 1 => .ret
  | z => .exit (z - 2).toNat) with
  | .ret => AJump.ret
  | .exit id => .exit id
  | _ => .none)
 split <;> rfl
section
variable {sites : List LSite} {both : BothF} {s : LSite} {b N D : Nat} {c : Code} {t t0 : T AV} {h h1 h2 : AHeap} {args vs ws : List AV} {z : Int} {j : AJump}
theorem round_L (hb : h.get b = some (recQ .ready j N c t0 D)) (hs : ∀ st jj, lsite sites ⟨st, jj, t0, N, Code.rgp c, Code.r1 c, Code.r2 c, D⟩ = some s) (hp : putPs N (Code.rgp c).toList args t0 = some t) (hg : slotsC t s.sa = some vs)
  (ea : s.fa both vs h = some (.ret (.tup ws), h1)) (k1 : h1.get b = h.get b) (hg2 : slotsC (Fr.tree (s.ts.zip ws)) s.ts = some ws)
  (eb : s.fb both ws (h1.put b (recQ .busy j N c t0 D)) = some (.ret (.int .i64 z), h2)) (k2 : h2.get b = some (recQ .busy j N c t0 D)) :
  roundL sites both b args h = some (.ret (.bool (jumpZ z).isNone), h2.put b (recQ (stZ (jumpZ z)) (jumpZ z) N c t0 D)) := by
 unfold roundL roundQ
 unfold recQ at hb k2 eb ⊢
 rw [hb]
 simp only [hp]
 rw [hs]
 have e1 : s.A both ⟨t, []⟩ h = some (.normal, ⟨Fr.tree (s.ts.zip ws), []⟩, h1) := by
  unfold LSite.A
  simp only [hg, ea]
  rfl
 simp only [e1, midRound]
 rw [k1, hb]
 have e2 : s.B both ⟨Fr.tree (s.ts.zip ws), []⟩ (h1.put b (.obj (.loop ⟨.busy, j, t0, N, Code.rgp c, Code.r1 c, Code.r2 c, D⟩))) = some (decE (.ret (.int .i64 z)), ⟨Fr.tree [], []⟩, h2) := by
  unfold LSite.B
  simp only [hg2, eb]
  rfl
 simp only [e2, endRound, jumpOf_decE, k2]
 rfl
end
end
end Go.Proofs.Yteecmjmglmpbpaa.Abs
namespace Go.Proofs.Yteecmjmglmpbpaa.Abs
noncomputable section
open Go.RowKit
section
variable {P : Program} {both : BothF} {sites : List LSite} {s : LSite} {b N D : Nat} {c : Code} {t0 : T AV} {h : AHeap} {args vs : List AV} {j : AJump} {st : LoopState} {Q : ARes → AHeap → Prop}
theorem dynB_yld (hb : h.get b = some (recQ st j N c t0 D)) (hl : Nat.beq args.length (Code.rgp c).size = true) : dynB P both (.yld b) args h = both true b args h := by
 have e : callV P h args (some (.yld b)) = some (.round b args, h) := by
  show yieldV h args b = _
  unfold yieldV
  rw [hb]
  unfold recQ
  simp only [hl, if_true]
 unfold dynB
 rw [e]
theorem Wp.marks0 {k : AHeap → R} (hk : Wp (k h) Q) : Wp (marksK [] h k) Q := hk
theorem Wp.marks1 {k : AHeap → R} {ds : DefT} (hD : h.get D = some (.obj .dfr)) (hk : Wp (marksK ds (h.put D (.obj .shut)) k) Q) : Wp (marksK (dmark D :: ds) h k) Q := by
 unfold marksK at hk ⊢
 have e : marksH (dmark D :: ds) h = marksH ds (h.put D (.obj .shut)) := by
  show (match h.get D with
   | some (.obj .dfr) => marksH ds (h.put D (.obj .shut))
   | _ => none) = _
  rw [hD]
 rw [e]
 exact hk
theorem round_W {G : Int → AHeap → Prop} (hb : h.get b = some (recQ .ready j N c t0 D)) (hs : ∀ st jj, lsite sites ⟨st, jj, t0, N, Code.rgp c, Code.r1 c, Code.r2 c, D⟩ = some s) (hg : ((putPs N (Code.rgp c).toList args t0).bind fun t => slotsC t s.sa) = some vs)
  (ea : Wp (s.fa both vs h) fun r h1 => ∃ ws, r = .ret (.tup ws) ∧ h1.get b = h.get b ∧ slotsC (Fr.tree (s.ts.zip ws)) s.ts = some ws ∧
   Wp (s.fb both ws (h1.put b (recQ .busy j N c t0 D))) fun r2 h2 => ∃ z, r2 = .ret (.int .i64 z) ∧ h2.get b = some (recQ .busy j N c t0 D) ∧ G z (h2.put b (recQ (stZ (jumpZ z)) (jumpZ z) N c t0 D))) :
  ∃ z h', roundL sites both b args h = some (.ret (.bool (jumpZ z).isNone), h') ∧ G z h' := by
 obtain ⟨t, hp, hg⟩ := Option.bind_eq_some_iff.1 hg
 obtain ⟨_, h1, e1, ws, rfl, k1, g2, _, h2, e2, z, rfl, k2, hG⟩ := ea
 exact ⟨z, _, round_L hb hs hp hg e1 k1 g2 e2 k2, hG⟩
end
section
variable {P : Program} {both : BothF} {N : Nat} {c : Code} {t : T AV} {ds : DefT} {h h2 : AHeap} {kn kr : AHeap → R} {ke : Nat → AHeap → R} {Q : ARes → AHeap → Prop} {g : FuncId} {first cap : List AV} {v : AV} {st : LoopState} {j : AJump}
theorem Wp.rng (hb : hasBody P g = true) (e : both false g (first ++ [.yld (h.next + 1)] ++ cap) (rngH N c t h) = some (.ret v, h2)) (hq : h2.get (h.next + 1) = some (recQ st j N c t h.next)) (hs : st ≠ .busy)
  (hn : j = .none → Wp (kn (h2.put (h.next + 1) (recQ .exhausted j N c t h.next))) Q) (hr : j = .ret → Wp (kr (h2.put (h.next + 1) (recQ .exhausted j N c t h.next))) Q) (he : ∀ id, j = .exit id → Wp (ke id (h2.put (h.next + 1) (recQ .exhausted j N c t h.next))) Q) : Wp (rngK (rngX P both N (.fn g first cap) c t ds h) kn kr ke) Q := by
 cases j with
 | none => exact Wp.rngN hb e hq hs rfl (hn rfl)
 | ret => exact Wp.rngR hb e hq hs rfl (hr rfl)
 | exit id => exact Wp.rngE hb e hq hs rfl (he id rfl)
end
theorem Wp.lettG {α : Type} {a : α} {K : α → R} {Q : ARes → AHeap → Prop} (hk : ∀ x, x = a → Wp (K x) Q) : Wp (Abs.lett a K) Q := hk a rfl
end
end Go.Proofs.Yteecmjmglmpbpaa.Abs
namespace Go.Proofs.Yteecmjmglmpbpaa
open Go.RowKit Abs
noncomputable def frame_All_1_L0b (both : BothF) (t0 : AV) (t1 : AV) (self : Int → AHeap → R) (t3 : Int) (h_4 : AHeap) : R :=
 obind (ldCell h_4 t1) fun v8 =>
 obind (avStr v8) fun t8 =>
 obind (sliceS t8 t3 (lenS t8)) fun t10 =>
 callN (both false 69 [strA t10] h_4) fun r11 h_10 =>
 obind (extT 0 r11) fun v12 =>
 obind (avStr v12) fun t12 =>
 obind (extT 1 r11) fun v13 =>
 obind (avInt .i64 v13) fun t13 =>
 obind (extT 2 r11) fun v14 =>
 obind (avInt .i64 v14) fun t14 =>
 lett ((t14 : Int) != 0) fun (t16 : Bool) =>
 lett (fun (t23 : Bool) (h_21 : AHeap) =>
  ifB t23
  (
   marksK [] h_21 fun h_24 =>
   some (.ret (.tup []), h_24))
  (
   lett (IntKind.i64.wrap (t3 + t13)) fun (t26 : Int) =>
   self t26 h_21)) fun j23 =>
 ifB t16
 (
  j23 true h_10)
 (
  callN (dynB Try.prog both t0 [.int .i64 t3, strA t12] h_10) fun r21 h_26 =>
  obind (avBool r21) fun t21 =>
  lett (!t21) fun (t22 : Bool) =>
  j23 t22 h_26)
noncomputable def frame_All_1_L0 (both : BothF) (t0 : AV) (t1 : AV) : Nat → Int → AHeap → R := iterR (fun _ _ => none) (frame_All_1_L0b both t0 t1)
theorem frame_All_1_L0_s (both : BothF) (t0 : AV) (t1 : AV) (m : Nat) : frame_All_1_L0 both t0 t1 (m + 1) = frame_All_1_L0b both t0 t1 (frame_All_1_L0 both t0 t1 m) := rfl
noncomputable def frame_All_1 (both : BothF) (n : Nat) (t0 : AV) (t1 : AV) (h : AHeap) : R :=
 frame_All_1_L0 both t0 t1 n 0 h
set_option maxHeartbeats 4000000 in
set_option maxRecDepth 20000 in
theorem frame_All_1_ok {both : BothF} (hc : BothAll Try.prog both) {n : Nat} {t0 : AV} {t1 : AV} {h : AHeap} {rR : ARes} {hR : AHeap} (hF : frame_All_1 both n t0 t1 h = some (rR, hR)) : Says Try.prog 68 [t0, t1] h rR hR := by
 unfold frame_All_1 at hF
 refine says_ofM (fn := Try.f68) Try.func68 (c := codeOf Try.f68) (by kernel_rfl) (by kernel_rfl) (fun w0 m0 => ?_)
 refine WR.weaken (l' := [(0, t0), (1, t1)]) (Fr.sub_cons (by kernel_rfl) (Fr.sub_cons (by kernel_rfl) (Fr.sub_nil _))) ?_
 refine WR.seqK (by kernel_rfl) (fun K1 n1 e1 q1 p1 => ?_)
 refine WR.region (by kernel_rfl) ?_
 refine WLR.val (d := (some 3)) (v := .int .i64 0) (h' := h) (by kernel_rfl) (by kernel_rfl) (by kernel_rfl) ?_
 refine WLR.nil (by kernel_rfl) ?_
 refine Go.weaken (l' := [(0, t0), (1, t1), (3, .int .i64 0)]) (Fr.sub_cons (by kernel_rfl) (Fr.sub_cons (by kernel_rfl) (Fr.sub_cons (by kernel_rfl) (Fr.sub_nil _)))) ?_
 refine n1 ?_
 refine WR.blockK (by kernel_rfl) (fun K2 n2 s2 o2 q2 p2 => ?_)
 refine WR.loopK (by kernel_rfl) (fun I3 K3 b3 n3 e3 q3 p3 => ?_)
 have L3 : ∀ (m : Nat) (t3 : Int) (h_4 : AHeap), frame_All_1_L0 both t0 t1 m t3 h_4 = some (rR, hR) → Go w0 m0 (Func.ntmps Try.f68) I3 [(0, t0), (1, t1), (3, .int .i64 t3)] [] h_4 := by
  intro m
  induction m with
  | zero => intro t3 h_4 hF; cases hF
  | succ m ih3 =>
   intro t3 h_4 hF
   rw [frame_All_1_L0_s] at hF; unfold frame_All_1_L0b at hF
   refine b3 ?_
   refine WR.blockK (by kernel_rfl) (fun K5 n5 s5 o5 q5 p5 => ?_)
   refine WR.seqK (by kernel_rfl) (fun K6 n6 e6 q6 p6 => ?_)
   refine WR.region (by kernel_rfl) ?_
   replace hF := obind_some hF; obtain ⟨v8, e7, hF⟩ := hF
   replace hF := obind_some hF; obtain ⟨t8, c8, hF⟩ := hF
   have c8 := avStr_some c8
   subst c8
   refine WLR.val (d := (some 8)) (v := strA t8) (h' := h_4) (by kernel_rfl) (by kernel_rfl) (Eq.trans (by kernel_rfl) (load_cell (P := Try.prog) (h := h_4) (t := 9) (by kernel_rfl) e7)) ?_
   refine WLR.val (d := (some 9)) (v := .int .i64 t3) (h' := h_4) (by kernel_rfl) (by kernel_rfl) (by kernel_rfl) ?_
   replace hF := obind_some hF; obtain ⟨t10, e9, hF⟩ := hF
   refine WLR.val (d := (some 10)) (v := strA t10) (h' := h_4) (by kernel_rfl) (by kernel_rfl) (Eq.trans (by kernel_rfl) (slice_str (P := Try.prog) (h := h_4) (t := 9) (A := (some (.int .i64 t3))) (B := none) (by kernel_rfl) (.inl ⟨_, rfl⟩) (.inr ⟨rfl, rfl⟩) e9)) ?_
   replace hF := callN_some hF; obtain ⟨r11, h_10, e11, hF⟩ := hF
   refine WLR.call (hc.says.ok w0) (d := (some 11)) (by kernel_rfl) (by kernel_rfl) (by kernel_rfl) e11 ?_
   refine WLR.val (d := (some 7)) (v := r11) (h' := h_10) (by kernel_rfl) (by kernel_rfl) (by kernel_rfl) ?_
   replace hF := obind_some hF; obtain ⟨v12, e12, hF⟩ := hF
   replace hF := obind_some hF; obtain ⟨t12, c13, hF⟩ := hF
   have c13 := avStr_some c13
   subst c13
   refine WLR.val (d := (some 12)) (v := strA t12) (h' := h_10) (by kernel_rfl) (by kernel_rfl) (Eq.trans (by kernel_rfl) (extract_tup (h := h_10) e12)) ?_
   replace hF := obind_some hF; obtain ⟨v13, e14, hF⟩ := hF
   replace hF := obind_some hF; obtain ⟨t13, c15, hF⟩ := hF
   have c15 := avInt_some c15
   subst c15
   refine WLR.val (d := (some 13)) (v := .int .i64 t13) (h' := h_10) (by kernel_rfl) (by kernel_rfl) (Eq.trans (by kernel_rfl) (extract_tup (h := h_10) e14)) ?_
   replace hF := obind_some hF; obtain ⟨v14, e16, hF⟩ := hF
   replace hF := obind_some hF; obtain ⟨t14, c17, hF⟩ := hF
   have c17 := avInt_some c17
   subst c17
   refine WLR.val (d := (some 14)) (v := .int .i64 t14) (h' := h_10) (by kernel_rfl) (by kernel_rfl) (Eq.trans (by kernel_rfl) (extract_tup (h := h_10) e16)) ?_
   refine WLR.val (d := (some 4)) (v := strA t12) (h' := h_10) (by kernel_rfl) (by kernel_rfl) (by kernel_rfl) ?_
   refine WLR.val (d := (some 5)) (v := .int .i64 t13) (h' := h_10) (by kernel_rfl) (by kernel_rfl) (by kernel_rfl) ?_
   refine WLR.val (d := (some 6)) (v := .int .i64 t14) (h' := h_10) (by kernel_rfl) (by kernel_rfl) (by kernel_rfl) ?_
   refine WLR.nil (by kernel_rfl) ?_
   refine Go.weaken (l' := [(0, t0), (1, t1), (3, .int .i64 t3), (4, strA t12), (5, .int .i64 t13), (6, .int .i64 t14)]) (Fr.sub_cons (by kernel_rfl) (Fr.sub_cons (by kernel_rfl) (Fr.sub_cons (by kernel_rfl) (Fr.sub_cons (by kernel_rfl) (Fr.sub_cons (by kernel_rfl) (Fr.sub_cons (by kernel_rfl) (Fr.sub_nil _))))))) ?_
   refine n6 ?_
   refine WR.seqK (by kernel_rfl) (fun K18 n18 e18 q18 p18 => ?_)
   refine WR.seqK (by kernel_rfl) (fun K19 n19 e19 q19 p19 => ?_)
   refine WR.region (by kernel_rfl) ?_
   refine WLR.val (d := (some 15)) (v := .int .i64 t14) (h' := h_10) (by kernel_rfl) (by kernel_rfl) (by kernel_rfl) ?_
   replace hF := lett_some hF; obtain ⟨t16, e20, hF⟩ := hF
   refine WLR.val (d := (some 16)) (v := .bool t16) (h' := h_10) (by kernel_rfl) (by kernel_rfl) (val_of AV.bool e20 (by kernel_rfl)) ?_
   refine WLR.val (d := (some 17)) (v := .bool t16) (h' := h_10) (by kernel_rfl) (by kernel_rfl) (by kernel_rfl) ?_
   replace hF := lett_some hF; obtain ⟨j23, e22, hF⟩ := hF
   have J23 : ∀ (t23 : Bool) (h_21 : AHeap), j23 t23 h_21 = some (rR, hR) → WLR Try.prog w0 m0 (Func.ntmps Try.f68) none 0 (Code.ops (Code.p1 (Code.p1 (Code.p2 (Code.p1 (Code.p1 (Code.p1 (Code.p2 (codeOf Try.f68))))))))) 9 K19 [(0, t0), (1, t1), (3, .int .i64 t3), (5, .int .i64 t13), (23, .bool t23)] [] h_21 := by
    intro t23 h_21 hF
    rw [e22] at hF
    refine WLR.nil (by kernel_rfl) ?_
    refine Go.weaken (l' := [(0, t0), (1, t1), (3, .int .i64 t3), (5, .int .i64 t13), (23, .bool t23)]) (Fr.sub_cons (by kernel_rfl) (Fr.sub_cons (by kernel_rfl) (Fr.sub_cons (by kernel_rfl) (Fr.sub_cons (by kernel_rfl) (Fr.sub_cons (by kernel_rfl) (Fr.sub_nil _)))))) ?_
    refine n19 ?_
    cases t23 with
    | true =>
     replace hF := ifB_t hF
     refine WR.cond_true (by kernel_rfl) (by kernel_rfl) ?_
     refine WR.ret (by kernel_rfl) ?_
     refine q18 ?_
     refine q5 ?_
     refine q3 ?_
     refine q2 ?_
     refine Go.leaveK hF (fun h_24 hF => ?_)
     obtain ⟨hF, hF2⟩ := ret_inj hF; subst hF; subst hF2
     exact ret_of (rs := []) (vs := []) (by kernel_rfl) res_nil (by kernel_rfl)
    | false =>
     replace hF := ifB_f hF
     refine WR.cond_false (by kernel_rfl) (by kernel_rfl) ?_
     refine WR.skip (by kernel_rfl) ?_
     refine n18 ?_
     refine WR.region (by kernel_rfl) ?_
     refine WLR.val (d := (some 24)) (v := .int .i64 t3) (h' := h_21) (by kernel_rfl) (by kernel_rfl) (by kernel_rfl) ?_
     refine WLR.val (d := (some 25)) (v := .int .i64 t13) (h' := h_21) (by kernel_rfl) (by kernel_rfl) (by kernel_rfl) ?_
     replace hF := lett_some hF; obtain ⟨t26, e25, hF⟩ := hF
     refine WLR.val (d := (some 26)) (v := .int .i64 t26) (h' := h_21) (by kernel_rfl) (by kernel_rfl) (val_of (AV.int .i64) e25 (by kernel_rfl)) ?_
     refine WLR.val (d := (some 3)) (v := .int .i64 t26) (h' := h_21) (by kernel_rfl) (by kernel_rfl) (by kernel_rfl) ?_
     refine WLR.nil (by kernel_rfl) ?_
     refine Go.weaken (l' := [(0, t0), (1, t1), (3, .int .i64 t26)]) (Fr.sub_cons (by kernel_rfl) (Fr.sub_cons (by kernel_rfl) (Fr.sub_cons (by kernel_rfl) (Fr.sub_nil _)))) ?_
     refine n5 ?_
     refine n3 ?_
     exact Go.weaken (Fr.sub_cons (by kernel_rfl) (Fr.sub_cons (by kernel_rfl) (Fr.sub_cons (by kernel_rfl) (Fr.sub_nil _)))) (ih3 _ _ hF)
   cases t16 with
   | true =>
    replace hF := ifB_t hF
    refine WLR.not (d := (some 18)) (by kernel_rfl) (by kernel_rfl) ?_
    refine WLR.not (d := (some 19)) (by kernel_rfl) (by kernel_rfl) ?_
    refine WLR.not (d := (some 20)) (by kernel_rfl) (by kernel_rfl) ?_
    refine WLR.not (d := (some 21)) (by kernel_rfl) (by kernel_rfl) ?_
    refine WLR.not (d := (some 22)) (by kernel_rfl) (by kernel_rfl) ?_
    refine WLR.val (d := (some 23)) (v := .bool true) (h' := h_10) (by kernel_rfl) (by kernel_rfl) (by kernel_rfl) ?_
    exact WLR.weaken (Fr.sub_cons (by kernel_rfl) (Fr.sub_cons (by kernel_rfl) (Fr.sub_cons (by kernel_rfl) (Fr.sub_cons (by kernel_rfl) (Fr.sub_cons (by kernel_rfl) (Fr.sub_nil _)))))) (J23 _ _ hF)
   | false =>
    replace hF := ifB_f hF
    refine WLR.val (d := (some 18)) (v := t0) (h' := h_10) (by kernel_rfl) (by kernel_rfl) (by kernel_rfl) ?_
    refine WLR.val (d := (some 19)) (v := .int .i64 t3) (h' := h_10) (by kernel_rfl) (by kernel_rfl) (by kernel_rfl) ?_
    refine WLR.val (d := (some 20)) (v := strA t12) (h' := h_10) (by kernel_rfl) (by kernel_rfl) (by kernel_rfl) ?_
    replace hF := callN_some hF; obtain ⟨r21, h_26, e27, hF⟩ := hF
    replace hF := obind_some hF; obtain ⟨t21, c28, hF⟩ := hF
    have c28 := avBool_some c28
    subst c28
    refine WLR.dyn (d := (some 21)) hc e27 ?_
    replace hF := lett_some hF; obtain ⟨t22, e29, hF⟩ := hF
    refine WLR.val (d := (some 22)) (v := .bool t22) (h' := h_26) (by kernel_rfl) (by kernel_rfl) (val_of AV.bool e29 (by kernel_rfl)) ?_
    refine WLR.val (d := (some 23)) (v := .bool t22) (h' := h_26) (by kernel_rfl) (by kernel_rfl) (by kernel_rfl) ?_
    exact WLR.weaken (Fr.sub_cons (by kernel_rfl) (Fr.sub_cons (by kernel_rfl) (Fr.sub_cons (by kernel_rfl) (Fr.sub_cons (by kernel_rfl) (Fr.sub_cons (by kernel_rfl) (Fr.sub_nil _)))))) (J23 _ _ hF)
 exact Go.weaken (Fr.sub_cons (by kernel_rfl) (Fr.sub_cons (by kernel_rfl) (Fr.sub_cons (by kernel_rfl) (Fr.sub_nil _)))) (L3 _ _ _ hF)
noncomputable def frame_All_1_fn (both : BothF) (n : Nat) : FnT := fun args h => match args with
 | [x0, x1] => frame_All_1 both n x0 x1 h
 | _ => none
set_option maxRecDepth 100000 in
theorem frame_All_1_fn_eq (both : BothF) (n : Nat) (t0 : AV) (t1 : AV) (h : AHeap) : frame_All_1_fn both n [t0, t1] h = frame_All_1 both n t0 t1 h :=
 rfl
theorem frame_All_1_holds {both : BothF} (hc : BothAll Try.prog both) (n : Nat) : Holds Try.prog 68 (frame_All_1_fn both n) := by
 intro args h r h2 e
 unfold frame_All_1_fn at e
 split at e
 ·exact frame_All_1_ok hc (n := n) e
 ·cases e
noncomputable def vote_look_R0A (_ : BothF) (_ : Nat) (t7 : AV) (t26 : Int) (t27 : Bytes) (h : AHeap) : R :=
 some (.ret (.tup [t7, .int .i64 t26, strA t27]), h)
set_option maxHeartbeats 4000000 in
set_option maxRecDepth 20000 in
theorem vote_look_R0A_ok {both : BothF} (_ : BothAll Try.prog both) {n : Nat} {t7 : AV} {t26 : Int} {t27 : Bytes} {h : AHeap} {rR : ARes} {hR : AHeap} (hF : vote_look_R0A both n t7 t26 t27 h = some (rR, hR)) {w0 : Base} {m0 : Map} {rd : Option Nat} {nR : Nat} {ds : DefT} : WR Try.prog w0 m0 (Func.ntmps Try.f29) rd nR (Code.r1 (Code.p1 (Code.p2 (Code.p1 (Code.p2 (Code.p2 (Code.p2 (Code.p2 (codeOf Try.f29))))))))) (Post w0 m0 (Func.ntmps Try.f29) .normal ⟨Fr.tree (tupFr [7, 8, 9] rR), ds⟩ hR) [(7, t7), (26, .int .i64 t26), (27, strA t27)] ds h := by
 unfold vote_look_R0A at hF
 refine WR.seqK (by kernel_rfl) (fun K41 n41 e41 q41 p41 => ?_)
 refine WR.region (by kernel_rfl) ?_
 refine WLR.val (d := (some 8)) (v := .int .i64 t26) (h' := h) (by kernel_rfl) (by kernel_rfl) (by kernel_rfl) ?_
 refine WLR.nil (by kernel_rfl) ?_
 refine Go.weaken (l' := [(7, t7), (8, .int .i64 t26), (27, strA t27)]) (Fr.sub_cons (by kernel_rfl) (Fr.sub_cons (by kernel_rfl) (Fr.sub_cons (by kernel_rfl) (Fr.sub_nil _)))) ?_
 refine n41 ?_
 refine WR.region (by kernel_rfl) ?_
 refine WLR.val (d := (some 9)) (v := strA t27) (h' := h) (by kernel_rfl) (by kernel_rfl) (by kernel_rfl) ?_
 refine WLR.nil (by kernel_rfl) ?_
 refine Go.weaken (l' := [(7, t7), (8, .int .i64 t26), (9, strA t27)]) (Fr.sub_cons (by kernel_rfl) (Fr.sub_cons (by kernel_rfl) (Fr.sub_cons (by kernel_rfl) (Fr.sub_nil _)))) ?_
 obtain ⟨hF, hF2⟩ := ret_inj hF; subst hF; subst hF2
 exact Go.postN (l' := [(7, t7), (8, .int .i64 t26), (9, strA t27)]) (Fr.sub_cons (by kernel_rfl) (Fr.sub_cons (by kernel_rfl) (Fr.sub_cons (by kernel_rfl) (Fr.sub_nil _))))
noncomputable def vote_look_R0A_fn (both : BothF) (n : Nat) : FnT := fun args h => match args with
 | [x7, x26, x27] => obind (avInt .i64 x26) fun t26 => obind (avStr x27) fun t27 => vote_look_R0A both n x7 t26 t27 h
 | _ => none
set_option maxRecDepth 100000 in
theorem vote_look_R0A_fn_eq (both : BothF) (n : Nat) (t7 : AV) (t26 : Int) (t27 : Bytes) (h : AHeap) : vote_look_R0A_fn both n [t7, .int .i64 t26, strA t27] h = vote_look_R0A both n t7 t26 t27 h :=
 (Eq.trans (obind_eq (fun t26 => obind (avStr (strA t27)) fun t27 => vote_look_R0A both n t7 t26 t27 h) (avInt_int .i64 t26)) (Eq.trans (obind_eq (fun t27 => vote_look_R0A both n t7 t26 t27 h) (avStr_str t27)) rfl))
noncomputable def vote_look_R0B (both : BothF) (_ : Nat) (t7 : AV) (t8 : Int) (t9 : Bytes) (h : AHeap) : R :=
 callN (both false 54 [strA t9] h) fun r30 h_44 =>
 obind (extT 0 r30) fun v31 =>
 obind (avAgg v31) fun t31 =>
 obind (extT 1 r30) fun v32 =>
 obind (avBool v32) fun t32 =>
 lett (newH h_44 89 [.int .i64 0, .int .i64 0, .int .i64 0]) fun h_50 =>
 obind (stRow h_50 3 t31 (newP h_44)) fun h_52 =>
 lett (!t32) fun (t34 : Bool) =>
 ifB t34
 (
  some (.ret (.int .i64 2), h_52))
 (
  obind (fldP 0 t7) fun t35 =>
  obind (ldCell h_52 t35) fun v36 =>
  obind (ldRow h_52 3 (newP h_44)) fun t37 =>
  outK (bldSl Try.prog h_52 83 1 [(0, .agg t37)]) fun v38 h_61 =>
  outK (opAppend Try.prog h_61 83 83 v36 v38) fun v39 h_63 =>
  obind (fldP 0 t7) fun t40 =>
  obind (stRow h_63 1 (AV.cells v39) t40) fun h_66 =>
  lett (IntKind.i64.wrap (t8 + (lenS t9))) fun (t44 : Int) =>
  lett (IntKind.i64.wrap (t44 + 12)) fun (t45 : Int) =>
  obind (fldP 1 t7) fun t46 =>
  obind (stRow h_66 1 [.int .i64 t45] t46) fun h_71 =>
  some (.ret (.int .i64 0), h_71))
set_option maxHeartbeats 4000000 in
set_option maxRecDepth 20000 in
theorem vote_look_R0B_ok {both : BothF} (hc : BothAll Try.prog both) {n : Nat} {t7 : AV} {t8 : Int} {t9 : Bytes} {h : AHeap} {rR : ARes} {hR : AHeap} (hF : vote_look_R0B both n t7 t8 t9 h = some (rR, hR)) {w0 : Base} {m0 : Map} {rd : Option Nat} {nR : Nat} {ds : DefT} : WR Try.prog w0 m0 (Func.ntmps Try.f29) rd nR (Code.r2 (Code.p1 (Code.p2 (Code.p1 (Code.p2 (Code.p2 (Code.p2 (Code.p2 (codeOf Try.f29))))))))) (Post w0 m0 (Func.ntmps Try.f29) (decE rR) ⟨Fr.tree [], ds⟩ hR) [(7, t7), (8, .int .i64 t8), (9, strA t9)] ds h := by
 unfold vote_look_R0B at hF
 refine WR.blockK (by kernel_rfl) (fun K42 n42 s42 o42 q42 p42 => ?_)
 refine WR.seqK (by kernel_rfl) (fun K43 n43 e43 q43 p43 => ?_)
 refine WR.region (by kernel_rfl) ?_
 refine WLR.val (d := (some 29)) (v := strA t9) (h' := h) (by kernel_rfl) (by kernel_rfl) (by kernel_rfl) ?_
 replace hF := callN_some hF; obtain ⟨r30, h_44, e45, hF⟩ := hF
 refine WLR.call (hc.says.ok w0) (d := (some 30)) (by kernel_rfl) (by kernel_rfl) (by kernel_rfl) e45 ?_
 refine WLR.val (d := (some 28)) (v := r30) (h' := h_44) (by kernel_rfl) (by kernel_rfl) (by kernel_rfl) ?_
 replace hF := obind_some hF; obtain ⟨v31, e46, hF⟩ := hF
 replace hF := obind_some hF; obtain ⟨t31, c47, hF⟩ := hF
 have c47 := avAgg_some c47
 subst c47
 refine WLR.val (d := (some 31)) (v := .agg t31) (h' := h_44) (by kernel_rfl) (by kernel_rfl) (Eq.trans (by kernel_rfl) (extract_tup (h := h_44) e46)) ?_
 replace hF := obind_some hF; obtain ⟨v32, e48, hF⟩ := hF
 replace hF := obind_some hF; obtain ⟨t32, c49, hF⟩ := hF
 have c49 := avBool_some c49
 subst c49
 refine WLR.val (d := (some 32)) (v := .bool t32) (h' := h_44) (by kernel_rfl) (by kernel_rfl) (Eq.trans (by kernel_rfl) (extract_tup (h := h_44) e48)) ?_
 replace hF := lett_some hF; obtain ⟨h_50, e51, hF⟩ := hF
 refine WLR.val (d := (some 10)) (v := (newP h_44)) (h' := h_50) (by kernel_rfl) (by kernel_rfl) (val_ofH e51 (by kernel_rfl)) ?_
 replace hF := obind_some hF; obtain ⟨h_52, e53, hF⟩ := hF
 refine WLR.eff (h' := h_52) (by kernel_rfl) (by kernel_rfl) (Eq.trans (by kernel_rfl) (store_row (P := Try.prog) (h := h_50) (t := 89) (v := (.agg t31)) (by kernel_rfl) (by kernel_rfl) e53)) ?_
 refine WLR.val (d := (some 11)) (v := .bool t32) (h' := h_52) (by kernel_rfl) (by kernel_rfl) (by kernel_rfl) ?_
 refine WLR.nil (by kernel_rfl) ?_
 refine Go.weaken (l' := [(7, t7), (8, .int .i64 t8), (9, strA t9), (10, (newP h_44)), (11, .bool t32)]) (Fr.sub_cons (by kernel_rfl) (Fr.sub_cons (by kernel_rfl) (Fr.sub_cons (by kernel_rfl) (Fr.sub_cons (by kernel_rfl) (Fr.sub_cons (by kernel_rfl) (Fr.sub_nil _)))))) ?_
 refine n43 ?_
 refine WR.seqK (by kernel_rfl) (fun K54 n54 e54 q54 p54 => ?_)
 refine WR.seqK (by kernel_rfl) (fun K55 n55 e55 q55 p55 => ?_)
 refine WR.region (by kernel_rfl) ?_
 refine WLR.val (d := (some 33)) (v := .bool t32) (h' := h_52) (by kernel_rfl) (by kernel_rfl) (by kernel_rfl) ?_
 replace hF := lett_some hF; obtain ⟨t34, e56, hF⟩ := hF
 refine WLR.val (d := (some 34)) (v := .bool t34) (h' := h_52) (by kernel_rfl) (by kernel_rfl) (val_of AV.bool e56 (by kernel_rfl)) ?_
 refine WLR.nil (by kernel_rfl) ?_
 refine Go.weaken (l' := [(7, t7), (8, .int .i64 t8), (9, strA t9), (10, (newP h_44)), (34, .bool t34)]) (Fr.sub_cons (by kernel_rfl) (Fr.sub_cons (by kernel_rfl) (Fr.sub_cons (by kernel_rfl) (Fr.sub_cons (by kernel_rfl) (Fr.sub_cons (by kernel_rfl) (Fr.sub_nil _)))))) ?_
 refine n55 ?_
 cases t34 with
 | true =>
  replace hF := ifB_t hF
  refine WR.cond_true (by kernel_rfl) (by kernel_rfl) ?_
  refine WR.exit (by kernel_rfl) ?_
  refine e54 ?_
  refine o42 (by kernel_rfl) ?_
  obtain ⟨hF, hF2⟩ := ret_inj hF; subst hF; subst hF2
  exact Go.postE
 | false =>
  replace hF := ifB_f hF
  refine WR.cond_false (by kernel_rfl) (by kernel_rfl) ?_
  refine WR.skip (by kernel_rfl) ?_
  refine n54 ?_
  refine WR.seqK (by kernel_rfl) (fun K57 n57 e57 q57 p57 => ?_)
  refine WR.region (by kernel_rfl) ?_
  replace hF := obind_some hF; obtain ⟨t35, e58, hF⟩ := hF
  refine WLR.val (d := (some 35)) (v := t35) (h' := h_52) (by kernel_rfl) (by kernel_rfl) (Eq.trans (by kernel_rfl) (field_ptr (P := Try.prog) (h := h_52) (s := 85) (f := 0) (by kernel_rfl) e58)) ?_
  replace hF := obind_some hF; obtain ⟨v36, e59, hF⟩ := hF
  refine WLR.val (d := (some 36)) (v := v36) (h' := h_52) (by kernel_rfl) (by kernel_rfl) (Eq.trans (by kernel_rfl) (load_cell (P := Try.prog) (h := h_52) (t := 83) (by kernel_rfl) e59)) ?_
  replace hF := obind_some hF; obtain ⟨t37, e60, hF⟩ := hF
  refine WLR.val (d := (some 37)) (v := .agg t37) (h' := h_52) (by kernel_rfl) (by kernel_rfl) (Eq.trans (by kernel_rfl) (load_row (P := Try.prog) (h := h_52) (t := 89) (by kernel_rfl) (by kernel_rfl) e60)) ?_
  replace hF := outK_some hF; obtain ⟨v38, h_61, e62, hF⟩ := hF
  refine WLR.val (d := (some 38)) (v := v38) (h' := h_61) (by kernel_rfl) (by kernel_rfl) (Eq.trans (by kernel_rfl) e62) ?_
  replace hF := outK_some hF; obtain ⟨v39, h_63, e64, hF⟩ := hF
  refine WLR.val (d := (some 39)) (v := v39) (h' := h_63) (by kernel_rfl) (by kernel_rfl) (Eq.trans (by kernel_rfl) e64) ?_
  replace hF := obind_some hF; obtain ⟨t40, e65, hF⟩ := hF
  refine WLR.val (d := (some 40)) (v := t40) (h' := h_63) (by kernel_rfl) (by kernel_rfl) (Eq.trans (by kernel_rfl) (field_ptr (P := Try.prog) (h := h_63) (s := 85) (f := 0) (by kernel_rfl) e65)) ?_
  replace hF := obind_some hF; obtain ⟨h_66, e67, hF⟩ := hF
  refine WLR.eff (h' := h_66) (by kernel_rfl) (by kernel_rfl) (Eq.trans (by kernel_rfl) (store_row (P := Try.prog) (h := h_63) (t := 83) (v := v39) (by kernel_rfl) (by kernel_rfl) e67)) ?_
  refine WLR.nil (by kernel_rfl) ?_
  refine Go.weaken (l' := [(7, t7), (8, .int .i64 t8), (9, strA t9)]) (Fr.sub_cons (by kernel_rfl) (Fr.sub_cons (by kernel_rfl) (Fr.sub_cons (by kernel_rfl) (Fr.sub_nil _)))) ?_
  refine n57 ?_
  refine WR.region (by kernel_rfl) ?_
  refine WLR.val (d := (some 41)) (v := .int .i64 t8) (h' := h_66) (by kernel_rfl) (by kernel_rfl) (by kernel_rfl) ?_
  refine WLR.val (d := (some 42)) (v := strA t9) (h' := h_66) (by kernel_rfl) (by kernel_rfl) (by kernel_rfl) ?_
  refine WLR.val (d := (some 43)) (v := .int .i64 (lenS t9)) (h' := h_66) (by kernel_rfl) (by kernel_rfl) (by kernel_rfl) ?_
  replace hF := lett_some hF; obtain ⟨t44, e68, hF⟩ := hF
  refine WLR.val (d := (some 44)) (v := .int .i64 t44) (h' := h_66) (by kernel_rfl) (by kernel_rfl) (val_of (AV.int .i64) e68 (by kernel_rfl)) ?_
  replace hF := lett_some hF; obtain ⟨t45, e69, hF⟩ := hF
  refine WLR.val (d := (some 45)) (v := .int .i64 t45) (h' := h_66) (by kernel_rfl) (by kernel_rfl) (val_of (AV.int .i64) e69 (by kernel_rfl)) ?_
  replace hF := obind_some hF; obtain ⟨t46, e70, hF⟩ := hF
  refine WLR.val (d := (some 46)) (v := t46) (h' := h_66) (by kernel_rfl) (by kernel_rfl) (Eq.trans (by kernel_rfl) (field_ptr (P := Try.prog) (h := h_66) (s := 85) (f := 1) (by kernel_rfl) e70)) ?_
  replace hF := obind_some hF; obtain ⟨h_71, e72, hF⟩ := hF
  refine WLR.eff (h' := h_71) (by kernel_rfl) (by kernel_rfl) (Eq.trans (by kernel_rfl) (store_row (P := Try.prog) (h := h_66) (t := 3) (v := (.int .i64 t45)) (by kernel_rfl) (by kernel_rfl) e72)) ?_
  refine WLR.nil (by kernel_rfl) ?_
  refine Go.weaken (l' := []) (Fr.sub_nil _) ?_
  refine n42 ?_
  obtain ⟨hF, hF2⟩ := ret_inj hF; subst hF; subst hF2
  exact Go.postN (l' := []) (Fr.sub_nil _)
noncomputable def vote_look_R0B_fn (both : BothF) (n : Nat) : FnT := fun args h => match args with
 | [x7, x8, x9] => obind (avInt .i64 x8) fun t8 => obind (avStr x9) fun t9 => vote_look_R0B both n x7 t8 t9 h
 | _ => none
set_option maxRecDepth 100000 in
theorem vote_look_R0B_fn_eq (both : BothF) (n : Nat) (t7 : AV) (t8 : Int) (t9 : Bytes) (h : AHeap) : vote_look_R0B_fn both n [t7, .int .i64 t8, strA t9] h = vote_look_R0B both n t7 t8 t9 h :=
 (Eq.trans (obind_eq (fun t8 => obind (avStr (strA t9)) fun t9 => vote_look_R0B both n t7 t8 t9 h) (avInt_int .i64 t8)) (Eq.trans (obind_eq (fun t9 => vote_look_R0B both n t7 t8 t9 h) (avStr_str t9)) rfl))
noncomputable def vote_look_R0 (n : Nat) : LSite := ⟨Func.ntmps Try.f29, (Code.p1 (Code.p2 (Code.p1 (Code.p2 (Code.p2 (Code.p2 (Code.p2 (codeOf Try.f29)))))))), [7, 26, 27], fun both => vote_look_R0A_fn both n, [7, 8, 9], fun both => vote_look_R0B_fn both n⟩
set_option maxRecDepth 20000 in
theorem vote_look_R0_ok (n : Nat) : LSite.ok Try.prog (vote_look_R0 n) where
 A := fun hc vs h r h2 e0 w0 m0 rd n2 ds => by
   have e : vote_look_R0A_fn _ n vs h = some (r, h2) := e0
   clear e0
   unfold vote_look_R0A_fn at e
   split at e
   ·replace e := obind_some e; obtain ⟨t26, c26, e⟩ := e; have c26 := avInt_some c26; subst c26
    replace e := obind_some e; obtain ⟨t27, c27, e⟩ := e; have c27 := avStr_some c27; subst c27
    exact vote_look_R0A_ok hc (n := n) e
   ·cases e
 B := fun hc vs h r h2 e0 w0 m0 rd n2 ds => by
   have e : vote_look_R0B_fn _ n vs h = some (r, h2) := e0
   clear e0
   unfold vote_look_R0B_fn at e
   split at e
   ·replace e := obind_some e; obtain ⟨t8, c8, e⟩ := e; have c8 := avInt_some c8; subst c8
    replace e := obind_some e; obtain ⟨t9, c9, e⟩ := e; have c9 := avStr_some c9; subst c9
    exact vote_look_R0B_ok hc (n := n) e
   ·cases e
noncomputable def vote_look (both : BothF) (_ : Nat) (t0 : AV) (t1 : Int) (h : AHeap) : R :=
 lett (newH h 85 [.nsl, .int .i64 0, .int .i64 0]) fun h_2 =>
 callN (both false 52 [t0, .int .i64 t1] h_2) fun r15 h_5 =>
 obind (extT 0 r15) fun v16 =>
 obind (avStr v16) fun t16 =>
 obind (extT 1 r15) fun v17 =>
 obind (avInt .i64 v17) fun t17 =>
 lett ((t17 : Int) != 0) fun (t19 : Bool) =>
 ifB t19
 (
  obind (stRow h_5 3 ([.nsl, .int .i64 0, .int .i64 0] : List AV) (newP h)) fun h_15 =>
  marksK [] h_15 fun h_17 =>
  obind (ldRow h_17 3 (newP h)) fun w4 =>
  some (.ret (.agg w4), h_17))
 (
  lett (newH h_5 85 [.nsl, .int .i64 0, .int .i64 0]) fun h_20 =>
  obind (stRow h_20 3 ([.nsl, .int .i64 0, .int .i64 (lenS t16)] : List AV) (newP h_5)) fun h_22 =>
  callN (both false 53 [strA t16] h_22) fun r25 h_26 =>
  lett (fun (d : DefT) (h_30 : AHeap) =>
   obind (ldRow h_30 3 (newP h_5)) fun t47 =>
   obind (stRow h_30 3 t47 (newP h)) fun h_33 =>
   marksK d h_33 fun h_35 =>
   obind (ldRow h_35 3 (newP h)) fun w4_37 =>
   some (.ret (.agg w4_37), h_35)) fun k29 =>
  rngK (rngX Try.prog both (Func.ntmps Try.f29) r25 (Code.p1 (Code.p2 (Code.p1 (Code.p2 (Code.p2 (Code.p2 (Code.p2 (codeOf Try.f29)))))))) (Fr.tree [(4, (newP h)), (7, (newP h_5)), (25, r25)]) [] h_26) (fun h_38 =>
   k29 (dmark (AHeap.next h_26) :: []) h_38) (fun _ =>
   none) (fun id h_40 =>
   ifB (Nat.beq id 0)
   (
    k29 (dmark (AHeap.next h_26) :: []) h_40)
   (
    none)))
set_option maxHeartbeats 4000000 in
set_option maxRecDepth 20000 in
theorem vote_look_ok {both : BothF} (hc : BothAll Try.prog both) {n : Nat} {t0 : AV} {t1 : Int} {h : AHeap} {rR : ARes} {hR : AHeap} (hF : vote_look both n t0 t1 h = some (rR, hR)) : Says Try.prog 29 [t0, .int .i64 t1] h rR hR := by
 unfold vote_look at hF
 refine says_ofM (fn := Try.f29) Try.func29 (c := codeOf Try.f29) (by kernel_rfl) (by kernel_rfl) (fun w0 m0 => ?_)
 refine WR.weaken (l' := [(0, t0), (1, .int .i64 t1)]) (Fr.sub_cons (by kernel_rfl) (Fr.sub_cons (by kernel_rfl) (Fr.sub_nil _))) ?_
 refine WR.seqK (by kernel_rfl) (fun K1 n1 e1 q1 p1 => ?_)
 refine WR.region (by kernel_rfl) ?_
 replace hF := lett_some hF; obtain ⟨h_2, e3, hF⟩ := hF
 refine WLR.val (d := (some 4)) (v := (newP h)) (h' := h_2) (by kernel_rfl) (by kernel_rfl) (val_ofH e3 (by kernel_rfl)) ?_
 refine WLR.nil (by kernel_rfl) ?_
 refine Go.weaken (l' := [(0, t0), (1, .int .i64 t1), (4, (newP h))]) (Fr.sub_cons (by kernel_rfl) (Fr.sub_cons (by kernel_rfl) (Fr.sub_cons (by kernel_rfl) (Fr.sub_nil _)))) ?_
 refine n1 ?_
 refine WR.seqK (by kernel_rfl) (fun K4 n4 e4 q4 p4 => ?_)
 refine WR.region (by kernel_rfl) ?_
 refine WLR.val (d := (some 13)) (v := t0) (h' := h_2) (by kernel_rfl) (by kernel_rfl) (by kernel_rfl) ?_
 refine WLR.val (d := (some 14)) (v := .int .i64 t1) (h' := h_2) (by kernel_rfl) (by kernel_rfl) (by kernel_rfl) ?_
 replace hF := callN_some hF; obtain ⟨r15, h_5, e6, hF⟩ := hF
 refine WLR.call (hc.says.ok w0) (d := (some 15)) (by kernel_rfl) (by kernel_rfl) (by kernel_rfl) e6 ?_
 refine WLR.val (d := (some 12)) (v := r15) (h' := h_5) (by kernel_rfl) (by kernel_rfl) (by kernel_rfl) ?_
 replace hF := obind_some hF; obtain ⟨v16, e7, hF⟩ := hF
 replace hF := obind_some hF; obtain ⟨t16, c8, hF⟩ := hF
 have c8 := avStr_some c8
 subst c8
 refine WLR.val (d := (some 16)) (v := strA t16) (h' := h_5) (by kernel_rfl) (by kernel_rfl) (Eq.trans (by kernel_rfl) (extract_tup (h := h_5) e7)) ?_
 replace hF := obind_some hF; obtain ⟨v17, e9, hF⟩ := hF
 replace hF := obind_some hF; obtain ⟨t17, c10, hF⟩ := hF
 have c10 := avInt_some c10
 subst c10
 refine WLR.val (d := (some 17)) (v := .int .i64 t17) (h' := h_5) (by kernel_rfl) (by kernel_rfl) (Eq.trans (by kernel_rfl) (extract_tup (h := h_5) e9)) ?_
 refine WLR.val (d := (some 5)) (v := strA t16) (h' := h_5) (by kernel_rfl) (by kernel_rfl) (by kernel_rfl) ?_
 refine WLR.val (d := (some 6)) (v := .int .i64 t17) (h' := h_5) (by kernel_rfl) (by kernel_rfl) (by kernel_rfl) ?_
 refine WLR.nil (by kernel_rfl) ?_
 refine Go.weaken (l' := [(4, (newP h)), (5, strA t16), (6, .int .i64 t17)]) (Fr.sub_cons (by kernel_rfl) (Fr.sub_cons (by kernel_rfl) (Fr.sub_cons (by kernel_rfl) (Fr.sub_nil _)))) ?_
 refine n4 ?_
 refine WR.seqK (by kernel_rfl) (fun K11 n11 e11 q11 p11 => ?_)
 refine WR.seqK (by kernel_rfl) (fun K12 n12 e12 q12 p12 => ?_)
 refine WR.region (by kernel_rfl) ?_
 refine WLR.val (d := (some 18)) (v := .int .i64 t17) (h' := h_5) (by kernel_rfl) (by kernel_rfl) (by kernel_rfl) ?_
 replace hF := lett_some hF; obtain ⟨t19, e13, hF⟩ := hF
 refine WLR.val (d := (some 19)) (v := .bool t19) (h' := h_5) (by kernel_rfl) (by kernel_rfl) (val_of AV.bool e13 (by kernel_rfl)) ?_
 refine WLR.nil (by kernel_rfl) ?_
 refine Go.weaken (l' := [(4, (newP h)), (5, strA t16), (19, .bool t19)]) (Fr.sub_cons (by kernel_rfl) (Fr.sub_cons (by kernel_rfl) (Fr.sub_cons (by kernel_rfl) (Fr.sub_nil _)))) ?_
 refine n12 ?_
 cases t19 with
 | true =>
  replace hF := ifB_t hF
  refine WR.cond_true (by kernel_rfl) (by kernel_rfl) ?_
  refine WR.seqK (by kernel_rfl) (fun K14 n14 e14 q14 p14 => ?_)
  refine WR.region (by kernel_rfl) ?_
  refine WLR.val (d := (some 20)) (v := .agg ([.nsl, .int .i64 0, .int .i64 0] : List AV)) (h' := h_5) (by kernel_rfl) (by kernel_rfl) (by kernel_rfl) ?_
  replace hF := obind_some hF; obtain ⟨h_15, e16, hF⟩ := hF
  refine WLR.eff (h' := h_15) (by kernel_rfl) (by kernel_rfl) (Eq.trans (by kernel_rfl) (store_row (P := Try.prog) (h := h_5) (t := 85) (v := (.agg ([.nsl, .int .i64 0, .int .i64 0] : List AV))) (by kernel_rfl) (by kernel_rfl) e16)) ?_
  refine WLR.nil (by kernel_rfl) ?_
  refine Go.weaken (l' := [(4, (newP h))]) (Fr.sub_cons (by kernel_rfl) (Fr.sub_nil _)) ?_
  refine n14 ?_
  refine WR.ret (by kernel_rfl) ?_
  refine q11 ?_
  refine Go.leaveK hF (fun h_17 hF => ?_)
  replace hF := obind_some hF; obtain ⟨w4, e18, hF⟩ := hF
  obtain ⟨hF, hF2⟩ := ret_inj hF; subst hF; subst hF2
  exact ret_of (rs := [.cell 4 85]) (vs := [.agg w4]) (by kernel_rfl) (res_cell (by kernel_rfl) (load_row (P := Try.prog) (h := h_17) (t := 85) (by kernel_rfl) (by kernel_rfl) e18) res_nil) (by kernel_rfl)
 | false =>
  replace hF := ifB_f hF
  refine WR.cond_false (by kernel_rfl) (by kernel_rfl) ?_
  refine WR.skip (by kernel_rfl) ?_
  refine n11 ?_
  refine WR.seqK (by kernel_rfl) (fun K19 n19 e19 q19 p19 => ?_)
  refine WR.region (by kernel_rfl) ?_
  refine WLR.val (d := (some 21)) (v := strA t16) (h' := h_5) (by kernel_rfl) (by kernel_rfl) (by kernel_rfl) ?_
  refine WLR.val (d := (some 22)) (v := .int .i64 (lenS t16)) (h' := h_5) (by kernel_rfl) (by kernel_rfl) (by kernel_rfl) ?_
  refine WLR.val (d := (some 23)) (v := .agg ([.nsl, .int .i64 0, .int .i64 (lenS t16)] : List AV)) (h' := h_5) (by kernel_rfl) (by kernel_rfl) (by kernel_rfl) ?_
  replace hF := lett_some hF; obtain ⟨h_20, e21, hF⟩ := hF
  refine WLR.val (d := (some 7)) (v := (newP h_5)) (h' := h_20) (by kernel_rfl) (by kernel_rfl) (val_ofH e21 (by kernel_rfl)) ?_
  replace hF := obind_some hF; obtain ⟨h_22, e23, hF⟩ := hF
  refine WLR.eff (h' := h_22) (by kernel_rfl) (by kernel_rfl) (Eq.trans (by kernel_rfl) (store_row (P := Try.prog) (h := h_20) (t := 85) (v := (.agg ([.nsl, .int .i64 0, .int .i64 (lenS t16)] : List AV))) (by kernel_rfl) (by kernel_rfl) e23)) ?_
  refine WLR.nil (by kernel_rfl) ?_
  refine Go.weaken (l' := [(4, (newP h)), (5, strA t16), (7, (newP h_5))]) (Fr.sub_cons (by kernel_rfl) (Fr.sub_cons (by kernel_rfl) (Fr.sub_cons (by kernel_rfl) (Fr.sub_nil _)))) ?_
  refine n19 ?_
  refine WR.seqK (by kernel_rfl) (fun K24 n24 e24 q24 p24 => ?_)
  refine WR.seqK (by kernel_rfl) (fun K25 n25 e25 q25 p25 => ?_)
  refine WR.region (by kernel_rfl) ?_
  refine WLR.val (d := (some 24)) (v := strA t16) (h' := h_22) (by kernel_rfl) (by kernel_rfl) (by kernel_rfl) ?_
  replace hF := callN_some hF; obtain ⟨r25, h_26, e27, hF⟩ := hF
  refine WLR.call (hc.says.ok w0) (d := (some 25)) (by kernel_rfl) (by kernel_rfl) (by kernel_rfl) e27 ?_
  refine WLR.nil (by kernel_rfl) ?_
  refine Go.weaken (l' := [(4, (newP h)), (7, (newP h_5)), (25, r25)]) (Fr.sub_cons (by kernel_rfl) (Fr.sub_cons (by kernel_rfl) (Fr.sub_cons (by kernel_rfl) (Fr.sub_nil _)))) ?_
  refine n25 ?_
  replace hF := lett_some hF; obtain ⟨k29, e29, hF⟩ := hF
  have J29 : ∀ (d : DefT) (h_30 : AHeap), k29 d h_30 = some (rR, hR) → Go w0 m0 (Func.ntmps Try.f29) (K24 .normal) [(4, (newP h)), (7, (newP h_5))] d h_30 := by
   intro d h_30 hF
   rw [e29] at hF
   refine n24 ?_
   refine WR.seqK (by kernel_rfl) (fun K31 n31 e31 q31 p31 => ?_)
   refine WR.region (by kernel_rfl) ?_
   replace hF := obind_some hF; obtain ⟨t47, e32, hF⟩ := hF
   refine WLR.val (d := (some 47)) (v := .agg t47) (h' := h_30) (by kernel_rfl) (by kernel_rfl) (Eq.trans (by kernel_rfl) (load_row (P := Try.prog) (h := h_30) (t := 85) (by kernel_rfl) (by kernel_rfl) e32)) ?_
   replace hF := obind_some hF; obtain ⟨h_33, e34, hF⟩ := hF
   refine WLR.eff (h' := h_33) (by kernel_rfl) (by kernel_rfl) (Eq.trans (by kernel_rfl) (store_row (P := Try.prog) (h := h_30) (t := 85) (v := (.agg t47)) (by kernel_rfl) (by kernel_rfl) e34)) ?_
   refine WLR.nil (by kernel_rfl) ?_
   refine Go.weaken (l' := [(4, (newP h))]) (Fr.sub_cons (by kernel_rfl) (Fr.sub_nil _)) ?_
   refine n31 ?_
   refine WR.ret (by kernel_rfl) ?_
   refine Go.leaveK hF (fun h_35 hF => ?_)
   replace hF := obind_some hF; obtain ⟨w4_37, e36, hF⟩ := hF
   obtain ⟨hF, hF2⟩ := ret_inj hF; subst hF; subst hF2
   exact ret_of (rs := [.cell 4 85]) (vs := [.agg w4_37]) (by kernel_rfl) (res_cell (by kernel_rfl) (load_row (P := Try.prog) (h := h_35) (t := 85) (by kernel_rfl) (by kernel_rfl) e36) res_nil) (by kernel_rfl)
  refine WR.blockK (by kernel_rfl) (fun K28 n28 s28 o28 q28 p28 => ?_)
  refine WR.rng hc hF (fun h_38 hF => ?_) (fun h_39 hF => ?_) (fun id h_40 hF => ?_)
  ·skip
   refine n28 ?_
   exact Go.weaken (Fr.sub_cons (by kernel_rfl) (Fr.sub_cons (by kernel_rfl) (Fr.sub_nil _))) (J29 _ _ hF)
  ·skip
   cases hF
  ·skip
   obtain ⟨rfl, hF⟩ := ifB_id hF
   refine s28 (by kernel_rfl) ?_
   exact Go.weaken (Fr.sub_cons (by kernel_rfl) (Fr.sub_cons (by kernel_rfl) (Fr.sub_nil _))) (J29 _ _ hF)
noncomputable def vote_look_fn (both : BothF) (n : Nat) : FnT := fun args h => match args with
 | [x0, x1] => obind (avInt .i64 x1) fun t1 => vote_look both n x0 t1 h
 | _ => none
set_option maxRecDepth 100000 in
theorem vote_look_fn_eq (both : BothF) (n : Nat) (t0 : AV) (t1 : Int) (h : AHeap) : vote_look_fn both n [t0, .int .i64 t1] h = vote_look both n t0 t1 h :=
 (Eq.trans (obind_eq (fun t1 => vote_look both n t0 t1 h) (avInt_int .i64 t1)) rfl)
theorem vote_look_holds {both : BothF} (hc : BothAll Try.prog both) (n : Nat) : Holds Try.prog 29 (vote_look_fn both n) := by
 intro args h r h2 e
 unfold vote_look_fn at e
 split at e
 ·replace e := obind_some e; obtain ⟨t1, c1, e⟩ := e; have c1 := avInt_some c1; subst c1
  exact vote_look_ok hc (n := n) e
 ·cases e
noncomputable def vote_Open_L1b (v25 : AV) (t27 : Int) (v47 : AV) (t48 : Int) (k75 : AHeap → R) (self : Int → AHeap → R) (t49 : Int) (h_79 : AHeap) : R :=
 lett (decide (t49 < t48)) fun (t50 : Bool) =>
 ifB t50
 (
  obind (idxP 3 v47 t49) fun t51 =>
  obind (ldRow h_79 3 t51) fun t52 =>
  lett (newH h_79 89 [.int .i64 0, .int .i64 0, .int .i64 0]) fun h_88 =>
  obind (stRow h_88 3 t52 (newP h_79)) fun h_90 =>
  obind (ldCell h_90 (AV.ptr (AHeap.next h_79) 0)) fun v54 =>
  obind (avInt .i64 v54) fun t54 =>
  obind (nilC v25) fun t56 =>
  obind (fldP 3 t56) fun t57 =>
  obind (fldP 0 t57) fun t58 =>
  obind (ldCell h_90 t58) fun v59 =>
  obind (avInt .i64 v59) fun t59 =>
  lett (decide (t54 > t59)) fun (t60 : Bool) =>
  lett (fun  (h_102 : AHeap) =>
   lett (IntKind.i64.wrap (t49 + 1)) fun (t69 : Int) =>
   self t69 h_102) fun k101 =>
  ifB t60
  (
   obind (ldRow h_90 3 (newP h_79)) fun t63 =>
   obind (nilC v25) fun t65 =>
   obind (fldP 3 t65) fun t66 =>
   obind (stRow h_90 3 t63 t66) fun h_107 =>
   obind (nilC v25) fun t67 =>
   obind (fldP 6 t67) fun t68 =>
   obind (stRow h_107 1 [.int .i64 t27] t68) fun h_111 =>
   k101 h_111)
  (
   k101 h_90))
 (
  k75 h_79)
noncomputable def vote_Open_L1 (v25 : AV) (t27 : Int) (v47 : AV) (t48 : Int) (k75 : AHeap → R) : Nat → Int → AHeap → R := iterR (fun _ _ => none) (vote_Open_L1b v25 t27 v47 t48 k75)
theorem vote_Open_L1_s (v25 : AV) (t27 : Int) (v47 : AV) (t48 : Int) (k75 : AHeap → R) (m : Nat) : vote_Open_L1 v25 t27 v47 t48 k75 (m + 1) = vote_Open_L1b v25 t27 v47 t48 k75 (vote_Open_L1 v25 t27 v47 t48 k75 m) := rfl
noncomputable def vote_Open_L0b (call : CallF) (n : Nat) (t0 : AV) (v25 : AV) (t26 : List AV) (k36 : AHeap → R) (self : Int → AHeap → R) (t27 : Int) (h_40 : AHeap) : R :=
 lett (decide (t27 < 2)) fun (t28 : Bool) =>
 ifB t28
 (
  outK (opIndex Try.prog h_40 87 (some (.agg t26)) (some (.int .i64 t27))) fun v30 h_47 =>
  obind (avAgg v30) fun t30 =>
  lett (newH h_47 85 [.nsl, .int .i64 0, .int .i64 0]) fun h_50 =>
  obind (stRow h_50 3 t30 (newP h_47)) fun h_52 =>
  obind (ldRow h_52 3 (newP h_47)) fun t31 =>
  callN (call 30 [.agg t31, t0, .int .i64 t27] h_52) fun r34 h_57 =>
  obind (avInt .i64 r34) fun t34 =>
  lett ((t34 : Int) != 0) fun (t36 : Bool) =>
  ifB t36
  (
   some (.ret (.tup [AV.nilp, .int .i64 t34]), h_57))
  (
   obind (ldCell h_57 (AV.ptr (AHeap.next h_47) 0)) fun v41 =>
   obind (lenL v41) fun t42 =>
   obind (nilC v25) fun t43 =>
   obind (fldP 1 t43) fun t44 =>
   obind (idxA 2 1 t44 t27) fun t45 =>
   obind (stRow h_57 1 [.int .i64 t42] t45) fun h_69 =>
   obind (ldCell h_69 (AV.ptr (AHeap.next h_47) 0)) fun v47 =>
   obind (lenL v47) fun t48 =>
   lett (fun  (h_76 : AHeap) =>
    lett (IntKind.i64.wrap (t27 + 1)) fun (t70 : Int) =>
    self t70 h_76) fun k75 =>
   vote_Open_L1 v25 t27 v47 t48 k75 n 0 h_69))
 (
  k36 h_40)
noncomputable def vote_Open_L0 (call : CallF) (n : Nat) (t0 : AV) (v25 : AV) (t26 : List AV) (k36 : AHeap → R) : Nat → Int → AHeap → R := iterR (fun _ _ => none) (vote_Open_L0b call n t0 v25 t26 k36)
theorem vote_Open_L0_s (call : CallF) (n : Nat) (t0 : AV) (v25 : AV) (t26 : List AV) (k36 : AHeap → R) (m : Nat) : vote_Open_L0 call n t0 v25 t26 k36 (m + 1) = vote_Open_L0b call n t0 v25 t26 k36 (vote_Open_L0 call n t0 v25 t26 k36 m) := rfl
noncomputable def vote_Open (call : CallF) (n : Nat) (t0 : AV) (h : AHeap) : R :=
 outK (opBin Try.prog h .eql 23 true (some t0) (some AV.nilp)) fun v12 h_4 =>
 obind (avBool v12) fun t12 =>
 ifB t12
 (
  some (.ret (.tup [AV.nilp, .int .i64 1]), h_4))
 (
  callN (call 28 [t0] h_4) fun r14 h_10 =>
  obind (avBool r14) fun t14 =>
  lett (!t14) fun (t15 : Bool) =>
  ifB t15
  (
   some (.ret (.tup [AV.nilp, .int .i64 40]), h_10))
  (
   callN (call 29 [t0, .int .i64 0] h_10) fun r17 h_16 =>
   obind (avAgg r17) fun t17 =>
   callN (call 29 [t0, .int .i64 1] h_16) fun r19 h_19 =>
   obind (avAgg r19) fun t19 =>
   obind (bldS Try.prog 87 [(0, .agg t17), (1, .agg t19)]) fun t20 =>
   lett (newH h_19 87 [.nsl, .int .i64 0, .int .i64 0, .nsl, .int .i64 0, .int .i64 0]) fun h_23 =>
   obind (stRow h_23 6 t20 (newP h_19)) fun h_25 =>
   obind (bldS Try.prog 89 [(1, .agg ([.int .i64 0, .int .i64 (-1)] : List AV))]) fun t23 =>
   obind (bldS Try.prog 92 [(0, t0), (2, .agg t23)]) fun t24 =>
   outK (opBox h_25 92 (some (.agg t24))) fun v25 h_30 =>
   obind (ldRow h_30 6 (newP h_19)) fun t26 =>
   lett (fun  (h_37 : AHeap) =>
    some (.ret (.tup [v25, .int .i64 0]), h_37)) fun k36 =>
   vote_Open_L0 call n t0 v25 t26 k36 n 0 h_30))
set_option maxHeartbeats 4000000 in
set_option maxRecDepth 20000 in
theorem vote_Open_ok {call : CallF} (hc : SaysAll Try.prog call) {n : Nat} {t0 : AV} {h : AHeap} {rR : ARes} {hR : AHeap} (hF : vote_Open call n t0 h = some (rR, hR)) : Says Try.prog 10 [t0] h rR hR := by
 unfold vote_Open at hF
 refine sO Try.func10 fun w0 m0 => ?_
 refine wW [(0, t0)] ?_
 refine oG fun n1 => W.r ?_
 refine oA 2 AV.nilp ?_
 refine oA 3 (.int .i64 0) ?_
 refine oV [(0, t0)] (n1 ?_)
 refine oH fun n2 q2 => ?_
 refine oG fun n3 => W.r ?_
 refine oA 11 t0 ?_
 replace hF := outK_some hF; obtain ⟨v12, h_4, e5, hF⟩ := hF
 replace hF := obind_some hF; obtain ⟨t12, c6, hF⟩ := hF
 have c6 := avBool_some c6
 subst c6
 refine WL.b (some 12) (.bool t12) h_4 e5 ?_
 refine oV [(0, t0), (12, .bool t12)] (n3 ?_)
 cases t12 with
 | true =>
  refine oT hF fun hF => ?_
  refine oG fun n7 => W.r ?_
  refine oA 2 AV.nilp ?_
  refine oA 3 (.int .i64 1) ?_
  refine oV [(2, AV.nilp), (3, .int .i64 1)] (n7 (oY (q2 ?_)))
  exact lZ hF [.tmp 2, .tmp 3] [AV.nilp, .int .i64 1] (rT (rT res_nil))
 | false =>
  refine oU hF fun hF => ?_
  refine oZ (n2 ?_)
  refine oH fun n8 q8 => ?_
  refine oG fun n9 => W.r ?_
  refine oA 13 t0 ?_
  refine oCb hc 14 hF fun t14 h_10 hF => ?_
  refine oB 15 hF fun t15 hF => ?_
  refine oV [(0, t0), (15, .bool t15)] (n9 ?_)
  cases t15 with
  | true =>
   refine oT hF fun hF => ?_
   refine oG fun n14 => W.r ?_
   refine oA 2 AV.nilp ?_
   refine oA 3 (.int .i64 40) ?_
   refine oV [(2, AV.nilp), (3, .int .i64 40)] (n14 (oY (q8 ?_)))
   exact lZ hF [.tmp 2, .tmp 3] [AV.nilp, .int .i64 40] (rT (rT res_nil))
  | false =>
   refine oU hF fun hF => ?_
   refine oZ (n8 ?_)
   refine oG fun n15 => W.r ?_
   refine oA 16 t0 ?_
   refine oCa hc 17 hF fun t17 h_16 hF => ?_
   refine oA 18 t0 ?_
   refine oCa hc 19 hF fun t19 h_19 hF => ?_
   obtain ⟨t20, e22, hF⟩ := obind_some hF
   refine WL.val (d := (some 20)) (v := .agg t20) (h' := h_19) (by kernel_rfl) (by kernel_rfl) (bld_ok (by kernel_rfl) e22) ?_
   refine oN 4 hF fun h_23 hF => ?_
   refine oW 87 (.agg t20) hF fun h_25 hF => ?_
   refine oV [(0, t0), (4, (newP h_19))] (n15 ?_)
   refine oG fun n27 => W.r ?_
   refine oA 21 t0 ?_
   refine oA 22 (.agg ([.int .i64 0, .int .i64 (-1)] : List AV)) ?_
   obtain ⟨t23, e28, hF⟩ := obind_some hF
   refine WL.val (d := (some 23)) (v := .agg t23) (h' := h_25) (by kernel_rfl) (by kernel_rfl) (bld_ok (by kernel_rfl) e28) ?_
   obtain ⟨t24, e29, hF⟩ := obind_some hF
   refine WL.val (d := (some 24)) (v := .agg t24) (h' := h_25) (by kernel_rfl) (by kernel_rfl) (bld_ok (by kernel_rfl) e29) ?_
   refine oK 25 hF fun v25 h_30 hF => ?_
   refine oA 5 v25 ?_
   refine oV [(0, t0), (4, (newP h_19)), (5, v25)] (n27 ?_)
   refine W.s (fun K32 n32 e32 q32 p32 => ?_)
   refine oG fun n33 => W.r ?_
   refine oR 26 87 hF fun t26 hF => ?_
   refine oA 27 (.int .i64 0) ?_
   refine oV [(0, t0), (5, v25), (26, .agg t26), (27, .int .i64 0)] (n33 ?_)
   obtain ⟨k36, e36, hF⟩ := lett_some hF
   have J36 : ∀  (h_37 : AHeap), k36 h_37 = some (rR, hR) → Go w0 m0 (Func.ntmps Try.f10) (K32 .normal) [(5, v25)] [] h_37 := by
    intro  h_37 hF
    rw [e36] at hF
    refine n32 ?_
    refine oG fun n38 => W.r ?_
    refine oA 71 v25 ?_
    refine oA 2 v25 ?_
    refine oA 3 (.int .i64 0) ?_
    refine oV [(2, v25), (3, .int .i64 0)] (n38 (oY ?_))
    exact lZ hF [.tmp 2, .tmp 3] [v25, .int .i64 0] (rT (rT res_nil))
   refine W.blockK (by kernel_rfl) (fun K35 n35 s35 o35 q35 p35 => ?_)
   refine W.loopK (by kernel_rfl) (fun I39 K39 b39 n39 e39 q39 p39 => ?_)
   have L39 : ∀ (m : Nat) (t27 : Int) (h_40 : AHeap), vote_Open_L0 call n t0 v25 t26 k36 m t27 h_40 = some (rR, hR) → Go w0 m0 (Func.ntmps Try.f10) I39 [(0, t0), (5, v25), (26, .agg t26), (27, .int .i64 t27)] [] h_40 := by
    intro m
    induction m with
    | zero => intro t27 h_40 hF; cases hF
    | succ m ih39 =>
     intro t27 h_40 hF
     rw [vote_Open_L0_s] at hF; unfold vote_Open_L0b at hF
     refine b39 ?_
     refine oG fun n41 => W.r ?_
     refine oB 28 hF fun t28 hF => ?_
     refine oV [(0, t0), (5, v25), (26, .agg t26), (27, .int .i64 t27), (28, .bool t28)] (n41 ?_)
     refine W.s (fun K43 n43 e43 q43 p43 => ?_)
     cases t28 with
     | true =>
      refine oT hF fun hF => ?_
      refine oZ (n43 ?_)
      refine oH fun n44 q44 => ?_
      refine W.blockK (by kernel_rfl) (fun K45 n45 s45 o45 q45 p45 => ?_)
      refine oG fun n46 => W.r ?_
      refine oA 29 (.int .i64 t27) ?_
      replace hF := outK_some hF; obtain ⟨v30, h_47, e48, hF⟩ := hF
      replace hF := obind_some hF; obtain ⟨t30, c49, hF⟩ := hF
      have c49 := avAgg_some c49
      subst c49
      refine WL.b (some 30) (.agg t30) h_47 e48 ?_
      refine oN 7 hF fun h_50 hF => ?_
      refine oA 6 (.int .i64 t27) ?_
      refine oW 85 (.agg t30) hF fun h_52 hF => ?_
      refine oV [(0, t0), (5, v25), (6, .int .i64 t27), (7, (newP h_47)), (26, .agg t26), (27, .int .i64 t27)] (n46 ?_)
      refine oH fun n54 q54 => ?_
      refine oG fun n55 => W.r ?_
      refine oR 31 85 hF fun t31 hF => ?_
      refine oA 32 t0 ?_
      refine oA 33 (.int .i64 t27) ?_
      refine oCi hc 34 hF fun t34 h_57 hF => ?_
      refine oA 8 (.int .i64 t34) ?_
      refine oV [(0, t0), (5, v25), (6, .int .i64 t27), (7, (newP h_47)), (8, .int .i64 t34), (26, .agg t26), (27, .int .i64 t27)] (n55 ?_)
      refine oG fun n60 => W.r ?_
      refine oA 35 (.int .i64 t34) ?_
      refine oB 36 hF fun t36 hF => ?_
      refine oV [(0, t0), (5, v25), (6, .int .i64 t27), (7, (newP h_47)), (8, .int .i64 t34), (26, .agg t26), (27, .int .i64 t27), (36, .bool t36)] (n60 ?_)
      cases t36 with
      | true =>
       refine oT hF fun hF => ?_
       refine oG fun n62 => W.r ?_
       refine oA 37 (.int .i64 t34) ?_
       refine oA 2 AV.nilp ?_
       refine oA 3 (.int .i64 t34) ?_
       refine oV [(2, AV.nilp), (3, .int .i64 t34)] (n62 (oY (q54 (q45 (q44 (q39 (q35 (q32 ?_))))))))
       exact lZ hF [.tmp 2, .tmp 3] [AV.nilp, .int .i64 t34] (rT (rT res_nil))
      | false =>
       refine oU hF fun hF => ?_
       refine oZ (n54 ?_)
       refine oG fun n63 => ?_
       refine W.draw (by kernel_rfl) (hc.ok w0) (plan := [0, 1, 2, 3, 4, 5, 6, 7, 8]) (by kernel_rfl) (by kernel_rfl) (by kernel_rfl) ?_
       refine WD.a 0 (some 38) v25 h_57 ?_
       refine WD.a 0 (some 39) (.int .i64 t27) h_57 ?_
       refine WD.a 0 (some 40) (AV.ptr (AHeap.next h_47) 0) h_57 ?_
       obtain ⟨v41, e64, hF⟩ := obind_some hF
       refine WD.b 1 (some 41) v41 h_57 (load_cell (P := Try.prog) (h := h_57) (t := 83) (by kernel_rfl) e64) ?_
       obtain ⟨t42, e65, hF⟩ := obind_some hF
       refine WD.b 0 (some 42) (.int .i64 t42) h_57 (len_row (P := Try.prog) (h := h_57) (t := 83) (e' := 89) (by kernel_rfl) e65) ?_
       obtain ⟨t43, e66, hF⟩ := obind_some hF
       refine WD.b 0 (some 43) t43 h_57 (nil_chk (h := h_57) e66) ?_
       obtain ⟨t44, e67, hF⟩ := obind_some hF
       refine WD.b 0 (some 44) t44 h_57 (field_ptr (P := Try.prog) (h := h_57) (s := 92) (f := 1) (by kernel_rfl) e67) ?_
       obtain ⟨t45, e68, hF⟩ := obind_some hF
       refine WD.b 0 (some 45) t45 h_57 (index_arr (P := Try.prog) (h := h_57) (t := 90) (e' := 3) (k := .i64) (by kernel_rfl) (by kernel_rfl) (by kernel_rfl) e68) ?_
       obtain ⟨h_69, e70, hF⟩ := obind_some hF
       refine WD.eff (h' := h_69) (by kernel_rfl) (by kernel_rfl) (Eq.trans (by kernel_rfl) (store_row (P := Try.prog) (h := h_57) (t := 3) (v := (.int .i64 t42)) (by kernel_rfl) (by kernel_rfl) e70)) (k := 2) (by kernel_rfl) (fun _ => (by kernel_rfl)) (by decide) ?_
       refine WD.nil ?_
       refine gW [(0, t0), (5, v25), (6, .int .i64 t27), (7, (newP h_47)), (26, .agg t26), (27, .int .i64 t27)] (n63 ?_)
       refine oG fun n71 => W.r ?_
       refine oA 46 (AV.ptr (AHeap.next h_47) 0) ?_
       refine oL 47 83 hF fun v47 hF => ?_
       refine oM 48 83 89 hF fun t48 hF => ?_
       refine oA 49 (.int .i64 0) ?_
       refine oV [(0, t0), (5, v25), (6, .int .i64 t27), (26, .agg t26), (27, .int .i64 t27), (47, v47), (48, .int .i64 t48), (49, .int .i64 0)] (n71 ?_)
       obtain ⟨k75, e75, hF⟩ := lett_some hF
       have J75 : ∀  (h_76 : AHeap), k75 h_76 = some (rR, hR) → Go w0 m0 (Func.ntmps Try.f10) (K45 .normal) [(0, t0), (5, v25), (26, .agg t26), (27, .int .i64 t27)] [] h_76 := by
        intro  h_76 hF
        rw [e75] at hF
        refine n45 (n44 (W.r ?_))
        refine oI 70 .i64 hF fun t70 hF => ?_
        refine oA 27 (.int .i64 t70) ?_
        refine oV [(0, t0), (5, v25), (26, .agg t26), (27, .int .i64 t70)] (n39 ?_)
        exact gW _ (ih39 _ _ hF)
       refine W.blockK (by kernel_rfl) (fun K74 n74 s74 o74 q74 p74 => ?_)
       refine W.loopK (by kernel_rfl) (fun I78 K78 b78 n78 e78 q78 p78 => ?_)
       have L78 : ∀ (m : Nat) (t49 : Int) (h_79 : AHeap), vote_Open_L1 v25 t27 v47 t48 k75 m t49 h_79 = some (rR, hR) → Go w0 m0 (Func.ntmps Try.f10) I78 [(0, t0), (5, v25), (6, .int .i64 t27), (26, .agg t26), (27, .int .i64 t27), (47, v47), (48, .int .i64 t48), (49, .int .i64 t49)] [] h_79 := by
        intro m
        induction m with
        | zero => intro t49 h_79 hF; cases hF
        | succ m ih78 =>
         intro t49 h_79 hF
         rw [vote_Open_L1_s] at hF; unfold vote_Open_L1b at hF
         refine b78 ?_
         refine oG fun n80 => W.r ?_
         refine oB 50 hF fun t50 hF => ?_
         refine oV [(0, t0), (5, v25), (6, .int .i64 t27), (26, .agg t26), (27, .int .i64 t27), (47, v47), (48, .int .i64 t48), (49, .int .i64 t49), (50, .bool t50)] (n80 ?_)
         refine W.s (fun K82 n82 e82 q82 p82 => ?_)
         cases t50 with
         | true =>
          refine oT hF fun hF => ?_
          refine oZ (n82 ?_)
          refine oG fun n83 => ?_
          refine W.blockK (by kernel_rfl) (fun K84 n84 s84 o84 q84 p84 => ?_)
          refine oG fun n85 => W.r ?_
          refine oP 51 83 89 .i64 hF fun t51 hF => ?_
          refine oR 52 89 hF fun t52 hF => ?_
          refine oN 10 hF fun h_88 hF => ?_
          refine oW 89 (.agg t52) hF fun h_90 hF => ?_
          refine oV [(0, t0), (5, v25), (6, .int .i64 t27), (10, (newP h_79)), (26, .agg t26), (27, .int .i64 t27), (47, v47), (48, .int .i64 t48), (49, .int .i64 t49)] (n85 ?_)
          refine oG fun n92 => ?_
          refine W.draw (by kernel_rfl) (hc.ok w0) (plan := [0, 1, 2, 3, 4, 5, 6, 7]) (by kernel_rfl) (by kernel_rfl) (by kernel_rfl) ?_
          refine WD.a 0 (some 53) (AV.ptr (AHeap.next h_79) 0) h_90 ?_
          replace hF := obind_some hF; obtain ⟨v54, e93, hF⟩ := hF
          replace hF := obind_some hF; obtain ⟨t54, c94, hF⟩ := hF
          have c94 := avInt_some c94
          subst c94
          refine WD.b 1 (some 54) (.int .i64 t54) h_90 (load_cell (P := Try.prog) (h := h_90) (t := 3) (by kernel_rfl) e93) ?_
          refine WD.a 0 (some 55) v25 h_90 ?_
          obtain ⟨t56, e95, hF⟩ := obind_some hF
          refine WD.b 0 (some 56) t56 h_90 (nil_chk (h := h_90) e95) ?_
          obtain ⟨t57, e96, hF⟩ := obind_some hF
          refine WD.b 0 (some 57) t57 h_90 (field_ptr (P := Try.prog) (h := h_90) (s := 92) (f := 2) (by kernel_rfl) e96) ?_
          obtain ⟨t58, e97, hF⟩ := obind_some hF
          refine WD.b 0 (some 58) t58 h_90 (field_ptr (P := Try.prog) (h := h_90) (s := 89) (f := 0) (by kernel_rfl) e97) ?_
          replace hF := obind_some hF; obtain ⟨v59, e98, hF⟩ := hF
          replace hF := obind_some hF; obtain ⟨t59, c99, hF⟩ := hF
          have c99 := avInt_some c99
          subst c99
          refine WD.b 1 (some 59) (.int .i64 t59) h_90 (load_cell (P := Try.prog) (h := h_90) (t := 3) (by kernel_rfl) e98) ?_
          obtain ⟨t60, e100, hF⟩ := lett_some hF
          refine WD.val (d := (some 60)) (v := .bool t60) (h' := h_90) (by kernel_rfl) (by kernel_rfl) (val_of AV.bool e100 (by kernel_rfl)) (k := 0) (by kernel_rfl) (fun e => absurd e (by decide)) (by decide) ?_
          refine WD.nil ?_
          refine gW [(0, t0), (5, v25), (6, .int .i64 t27), (10, (newP h_79)), (26, .agg t26), (27, .int .i64 t27), (47, v47), (48, .int .i64 t48), (49, .int .i64 t49), (60, .bool t60)] (n92 ?_)
          obtain ⟨k101, e101, hF⟩ := lett_some hF
          have J101 : ∀  (h_102 : AHeap), k101 h_102 = some (rR, hR) → Go w0 m0 (Func.ntmps Try.f10) (K84 .normal) [(0, t0), (5, v25), (6, .int .i64 t27), (26, .agg t26), (27, .int .i64 t27), (47, v47), (48, .int .i64 t48), (49, .int .i64 t49)] [] h_102 := by
           intro  h_102 hF
           rw [e101] at hF
           refine n84 (n83 (W.r ?_))
           refine oI 69 .i64 hF fun t69 hF => ?_
           refine oA 49 (.int .i64 t69) ?_
           refine oV [(0, t0), (5, v25), (6, .int .i64 t27), (26, .agg t26), (27, .int .i64 t27), (47, v47), (48, .int .i64 t48), (49, .int .i64 t69)] (n78 ?_)
           exact gW _ (ih78 _ _ hF)
          cases t60 with
          | true =>
           refine oT hF fun hF => ?_
           refine W.r ?_
           refine oA 61 v25 ?_
           refine oA 62 v25 ?_
           refine oR 63 89 hF fun t63 hF => ?_
           refine oA 64 (.int .i64 t27) ?_
           refine oC0 65 hF fun t65 hF => ?_
           refine oF 66 92 2 hF fun t66 hF => ?_
           refine oW 89 (.agg t63) hF fun h_107 hF => ?_
           refine oC0 67 hF fun t67 hF => ?_
           refine oF 68 92 3 hF fun t68 hF => ?_
           refine oW 3 (.int .i64 t27) hF fun h_111 hF => ?_
           refine oV [(0, t0), (5, v25), (6, .int .i64 t27), (26, .agg t26), (27, .int .i64 t27), (47, v47), (48, .int .i64 t48), (49, .int .i64 t49)] ?_
           exact gW _ (J101 _ hF)
          | false =>
           refine oU hF fun hF => ?_
           refine oZ ?_
           exact gW _ (J101 _ hF)
         | false =>
          refine oU hF fun hF => ?_
          refine W.exit (by kernel_rfl) ?_
          refine e82 (e78 ?_)
          refine s74 (by kernel_rfl) ?_
          exact gW _ (J75 _ hF)
       exact gW _ (L78 _ _ _ hF)
     | false =>
      refine oU hF fun hF => ?_
      refine W.exit (by kernel_rfl) ?_
      refine e43 (e39 ?_)
      refine s35 (by kernel_rfl) ?_
      exact gW _ (J36 _ hF)
   exact gW _ (L39 _ _ _ hF)
noncomputable def law08_works (call : CallF) (_ : Nat)  (h : AHeap) : R :=
 callN (call 9 [] h) fun r4 h_3 =>
 callN (call 10 [r4] h_3) fun r7 h_6 =>
 obind (extT 0 r7) fun v8 =>
 obind (extT 1 r7) fun v9 =>
 obind (avInt .i64 v9) fun t9 =>
 lett ((t9 : Int) != 0) fun (t11 : Bool) =>
 lett (fun (t15 : Bool) (h_14 : AHeap) =>
  lett (fun (t21 : Bool) (h_17 : AHeap) =>
   lett (fun (t27 : Bool) (h_20 : AHeap) =>
    lett (fun (t32 : Bool) (h_23 : AHeap) =>
     ifB t32
     (
      some (.ret (.bool false), h_23))
     (
      callN (call 10 [r4] h_23) fun r35 h_28 =>
      obind (extT 0 r35) fun v36 =>
      obind (extT 1 r35) fun v37 =>
      obind (avInt .i64 v37) fun t37 =>
      lett ((t37 : Int) == 0) fun (t39 : Bool) =>
      lett (fun (t43 : Bool) (h_35 : AHeap) =>
       lett (fun (t49 : Bool) (h_38 : AHeap) =>
        some (.ret (.bool t49), h_38)) fun j49 =>
       ifB t43
       (
        callN (call 16 [v36] h_35) fun r46 h_41 =>
        obind (avAgg r46) fun t46 =>
        obind (eqOther Try.prog 31 (.agg t46) (.agg ([.int .i64 1, .int .i64 2] : List AV))) fun t48 =>
        j49 t48 h_41)
       (
        j49 false h_35)) fun j43 =>
      ifB t39
      (
       outK (opBin Try.prog h_28 .neq 25 true (some v36) (some AV.nilp)) fun v42 h_45 =>
       obind (avBool v42) fun t42 =>
       j43 t42 h_45)
      (
       j43 false h_28))) fun j32 =>
    ifB t27
    (
     j32 true h_20)
    (
     callN (call 15 [r4, AV.nsl, .int .i64 0] h_20) fun r30 h_48 =>
     obind (avInt .i64 r30) fun t30 =>
     lett ((t30 : Int) != 0) fun (t31 : Bool) =>
     j32 t31 h_48)) fun j27 =>
   ifB t21
   (
    j27 true h_17)
   (
    callN (call 11 [v8, .agg ([.int .i64 1, .int .i64 2] : List AV)] h_17) fun r25 h_52 =>
    obind (avInt .i64 r25) fun t25 =>
    lett ((t25 : Int) != 0) fun (t26 : Bool) =>
    j27 t26 h_52)) fun j21 =>
  ifB t15
  (
   j21 true h_14)
  (
   callN (call 16 [v8] h_14) fun r18 h_56 =>
   obind (avAgg r18) fun t18 =>
   obind (eqOther Try.prog 31 (.agg t18) (.agg ([.int .i64 0, .int .i64 (-1)] : List AV))) fun t20 =>
   lett (!t20) fun (t20_60 : Bool) =>
   j21 t20_60 h_56)) fun j15 =>
 ifB t11
 (
  j15 true h_6)
 (
  outK (opBin Try.prog h_6 .eql 25 true (some v8) (some AV.nilp)) fun v14 h_62 =>
  obind (avBool v14) fun t14 =>
  j15 t14 h_62)
set_option maxHeartbeats 4000000 in
set_option maxRecDepth 20000 in
theorem law08_works_ok {call : CallF} (hc : SaysAll Try.prog call) {n : Nat}  {h : AHeap} {rR : ARes} {hR : AHeap} (hF : law08_works call n  h = some (rR, hR)) : Says Try.prog 8 [] h rR hR := by
 unfold law08_works at hF
 refine sO Try.func8 fun w0 m0 => ?_
 refine wW [] ?_
 refine oG fun n1 => W.r ?_
 refine oA 0 (.bool false) ?_
 refine oV [] (n1 ?_)
 refine oG fun n2 => W.r ?_
 refine oC hc (some 4) hF fun r4 h_3 hF => ?_
 refine oA 1 r4 ?_
 refine oV [(1, r4)] (n2 ?_)
 refine oG fun n5 => W.r ?_
 refine oA 6 r4 ?_
 refine oC hc (some 7) hF fun r7 h_6 hF => ?_
 refine oA 5 r7 ?_
 refine oE 8 hF fun v8 hF => ?_
 refine oEi 9 hF fun t9 hF => ?_
 refine oA 2 v8 ?_
 refine oA 3 (.int .i64 t9) ?_
 refine oV [(1, r4), (2, v8), (3, .int .i64 t9)] (n5 ?_)
 refine oH fun n11 q11 => ?_
 refine W.s (fun K12 n12 e12 q12 p12 => ?_)
 refine W.r ?_
 refine oA 10 (.int .i64 t9) ?_
 refine oB 11 hF fun t11 hF => ?_
 refine oA 12 (.bool t11) ?_
 obtain ⟨j15, e15, hF⟩ := lett_some hF
 have J16 : ∀ (t15 : Bool) (h_14 : AHeap), j15 t15 h_14 = some (rR, hR) → WL Try.prog w0 m0 (Func.ntmps Try.f8) (Code.ops (Code.p1 (Code.p1 (Code.p2 (Code.p2 (Code.p2 (codeOf Try.f8))))))) 6 K12 [(1, r4), (2, v8), (15, .bool t15)] [] h_14 := by
  intro t15 h_14 hF
  rw [e15] at hF
  refine oA 16 (.bool t15) ?_
  obtain ⟨j21, e18, hF⟩ := lett_some hF
  have J19 : ∀ (t21 : Bool) (h_17 : AHeap), j21 t21 h_17 = some (rR, hR) → WL Try.prog w0 m0 (Func.ntmps Try.f8) (Code.ops (Code.p1 (Code.p1 (Code.p2 (Code.p2 (Code.p2 (codeOf Try.f8))))))) 12 K12 [(1, r4), (2, v8), (21, .bool t21)] [] h_17 := by
   intro t21 h_17 hF
   rw [e18] at hF
   refine oA 22 (.bool t21) ?_
   obtain ⟨j27, e21, hF⟩ := lett_some hF
   have J22 : ∀ (t27 : Bool) (h_20 : AHeap), j27 t27 h_20 = some (rR, hR) → WL Try.prog w0 m0 (Func.ntmps Try.f8) (Code.ops (Code.p1 (Code.p1 (Code.p2 (Code.p2 (Code.p2 (codeOf Try.f8))))))) 18 K12 [(1, r4), (27, .bool t27)] [] h_20 := by
    intro t27 h_20 hF
    rw [e21] at hF
    refine oA 28 (.bool t27) ?_
    obtain ⟨j32, e24, hF⟩ := lett_some hF
    have J25 : ∀ (t32 : Bool) (h_23 : AHeap), j32 t32 h_23 = some (rR, hR) → WL Try.prog w0 m0 (Func.ntmps Try.f8) (Code.ops (Code.p1 (Code.p1 (Code.p2 (Code.p2 (Code.p2 (codeOf Try.f8))))))) 23 K12 [(1, r4), (32, .bool t32)] [] h_23 := by
     intro t32 h_23 hF
     rw [e24] at hF
     refine oV [(1, r4), (32, .bool t32)] (n12 ?_)
     cases t32 with
     | true =>
      refine oT hF fun hF => ?_
      refine oG fun n26 => W.r ?_
      refine oA 0 (.bool false) ?_
      refine oV [(0, .bool false)] (n26 (oY (q11 ?_)))
      exact lZ hF [.tmp 0] [.bool false] (rT res_nil)
     | false =>
      refine oU hF fun hF => ?_
      refine oZ (n11 ?_)
      refine oG fun n27 => W.r ?_
      refine oA 34 r4 ?_
      refine oC hc (some 35) hF fun r35 h_28 hF => ?_
      refine oA 33 r35 ?_
      refine oE 36 hF fun v36 hF => ?_
      refine oEi 37 hF fun t37 hF => ?_
      refine oA 2 v36 ?_
      refine oA 3 (.int .i64 t37) ?_
      refine oV [(2, v36), (3, .int .i64 t37)] (n27 ?_)
      refine W.s (fun K33 n33 e33 q33 p33 => ?_)
      refine W.r ?_
      refine oA 38 (.int .i64 t37) ?_
      refine oB 39 hF fun t39 hF => ?_
      refine oA 40 (.bool t39) ?_
      obtain ⟨j43, e36, hF⟩ := lett_some hF
      have J37 : ∀ (t43 : Bool) (h_35 : AHeap), j43 t43 h_35 = some (rR, hR) → WL Try.prog w0 m0 (Func.ntmps Try.f8) (Code.ops (Code.p1 (Code.p2 (Code.p2 (Code.p2 (Code.p2 (Code.p2 (codeOf Try.f8)))))))) 6 K33 [(2, v36), (43, .bool t43)] [] h_35 := by
       intro t43 h_35 hF
       rw [e36] at hF
       refine oA 44 (.bool t43) ?_
       obtain ⟨j49, e39, hF⟩ := lett_some hF
       have J40 : ∀ (t49 : Bool) (h_38 : AHeap), j49 t49 h_38 = some (rR, hR) → WL Try.prog w0 m0 (Func.ntmps Try.f8) (Code.ops (Code.p1 (Code.p2 (Code.p2 (Code.p2 (Code.p2 (Code.p2 (codeOf Try.f8)))))))) 12 K33 [(49, .bool t49)] [] h_38 := by
        intro t49 h_38 hF
        rw [e39] at hF
        refine oA 0 (.bool t49) ?_
        refine oV [(0, .bool t49)] (n33 (oY ?_))
        exact lZ hF [.tmp 0] [.bool t49] (rT res_nil)
       cases t43 with
       | true =>
        replace hF := ifB_t hF
        refine oA 45 v36 ?_
        refine oCa hc 46 hF fun t46 h_41 hF => ?_
        refine oA 47 (.agg ([.int .i64 1, .int .i64 2] : List AV)) ?_
        obtain ⟨t48, e44, hF⟩ := obind_some hF
        refine WL.b (some 48) (.bool t48) h_41 (eq_other (P := Try.prog) (h := h_41) (t := 31) (lit := false) (by kernel_rfl) e44) ?_
        refine oA 49 (.bool t48) ?_
        exact lW _ (J40 _ _ hF)
       | false =>
        replace hF := ifB_f hF
        refine WL.o (some 45) ?_
        refine WL.o (some 46) ?_
        refine WL.o (some 47) ?_
        refine WL.o (some 48) ?_
        refine oA 49 (.bool false) ?_
        exact lW _ (J40 _ _ hF)
      cases t39 with
      | true =>
       replace hF := ifB_t hF
       refine oA 41 v36 ?_
       replace hF := outK_some hF; obtain ⟨v42, h_45, e46, hF⟩ := hF
       replace hF := obind_some hF; obtain ⟨t42, c47, hF⟩ := hF
       have c47 := avBool_some c47
       subst c47
       refine WL.b (some 42) (.bool t42) h_45 e46 ?_
       refine oA 43 (.bool t42) ?_
       exact lW _ (J37 _ _ hF)
      | false =>
       replace hF := ifB_f hF
       refine WL.o (some 41) ?_
       refine WL.o (some 42) ?_
       refine oA 43 (.bool false) ?_
       exact lW _ (J37 _ _ hF)
    cases t27 with
    | true =>
     replace hF := ifB_t hF
     refine WL.o (some 29) ?_
     refine WL.o (some 30) ?_
     refine WL.o (some 31) ?_
     refine oA 32 (.bool true) ?_
     exact lW _ (J25 _ _ hF)
    | false =>
     replace hF := ifB_f hF
     refine oA 29 r4 ?_
     refine oCi hc 30 hF fun t30 h_48 hF => ?_
     refine oB 31 hF fun t31 hF => ?_
     refine oA 32 (.bool t31) ?_
     exact lW _ (J25 _ _ hF)
   cases t21 with
   | true =>
    replace hF := ifB_t hF
    refine WL.o (some 23) ?_
    refine WL.o (some 24) ?_
    refine WL.o (some 25) ?_
    refine WL.o (some 26) ?_
    refine oA 27 (.bool true) ?_
    exact lW _ (J22 _ _ hF)
   | false =>
    replace hF := ifB_f hF
    refine oA 23 v8 ?_
    refine oA 24 (.agg ([.int .i64 1, .int .i64 2] : List AV)) ?_
    refine oCi hc 25 hF fun t25 h_52 hF => ?_
    refine oB 26 hF fun t26 hF => ?_
    refine oA 27 (.bool t26) ?_
    exact lW _ (J22 _ _ hF)
  cases t15 with
  | true =>
   replace hF := ifB_t hF
   refine WL.o (some 17) ?_
   refine WL.o (some 18) ?_
   refine WL.o (some 19) ?_
   refine WL.o (some 20) ?_
   refine oA 21 (.bool true) ?_
   exact lW _ (J19 _ _ hF)
  | false =>
   replace hF := ifB_f hF
   refine oA 17 v8 ?_
   refine oCa hc 18 hF fun t18 h_56 hF => ?_
   refine oA 19 (.agg ([.int .i64 0, .int .i64 (-1)] : List AV)) ?_
   obtain ⟨t20, e59, hF⟩ := obind_some hF
   obtain ⟨t20_60, e61, hF⟩ := lett_some hF
   refine WL.val (d := (some 20)) (v := .bool t20_60) (h' := h_56) (by kernel_rfl) (by kernel_rfl) (val_of AV.bool e61 (Eq.trans (by kernel_rfl) (neq_other (P := Try.prog) (h := h_56) (t := 31) (lit := false) (by kernel_rfl) e59))) ?_
   refine oA 21 (.bool t20_60) ?_
   exact lW _ (J19 _ _ hF)
 cases t11 with
 | true =>
  replace hF := ifB_t hF
  refine WL.o (some 13) ?_
  refine WL.o (some 14) ?_
  refine oA 15 (.bool true) ?_
  exact lW _ (J16 _ _ hF)
 | false =>
  replace hF := ifB_f hF
  refine oA 13 v8 ?_
  replace hF := outK_some hF; obtain ⟨v14, h_62, e63, hF⟩ := hF
  replace hF := obind_some hF; obtain ⟨t14, c64, hF⟩ := hF
  have c64 := avBool_some c64
  subst c64
  refine WL.b (some 14) (.bool t14) h_62 e63 ?_
  refine oA 15 (.bool t14) ?_
  exact lW _ (J16 _ _ hF)
noncomputable def law08_heavy_L0b (t0 : AV) (t7 : Int) (k7 : AHeap → R) (self : Int → Int → AHeap → R) (t3 : Int) (t8 : Int) (h_13 : AHeap) : R :=
 lett (decide (t8 < t7)) fun (t9 : Bool) =>
 ifB t9
 (
  obind (idxP 6 t0 t8) fun t10 =>
  obind (ldRow h_13 6 t10) fun t11 =>
  lett (newH h_13 49 [.int .i64 0, .int .i64 0, .int .i64 0, .int .i64 0, .str 0 0, .nsl]) fun h_22 =>
  obind (stRow h_22 6 t11 (newP h_13)) fun h_24 =>
  obind (ldCell h_24 (AV.ptr (AHeap.next h_13) 4)) fun v13 =>
  obind (avStr v13) fun t13 =>
  lett (IntKind.i64.wrap (4096 - t3)) fun (t16 : Int) =>
  lett (decide ((lenS t13) > t16)) fun (t17 : Bool) =>
  ifB t17
  (
   some (.ret (.bool true), h_24))
  (
   obind (ldCell h_24 (AV.ptr (AHeap.next h_13) 4)) fun v20 =>
   obind (avStr v20) fun t20 =>
   lett (IntKind.i64.wrap (t3 + (lenS t20))) fun (t22 : Int) =>
   lett (IntKind.i64.wrap (t8 + 1)) fun (t23 : Int) =>
   self t22 t23 h_24))
 (
  k7 h_13)
noncomputable def law08_heavy_L0 (t0 : AV) (t7 : Int) (k7 : AHeap → R) : Nat → Int → Int → AHeap → R := iterR (fun _ _ _ => none) (law08_heavy_L0b t0 t7 k7)
theorem law08_heavy_L0_s (t0 : AV) (t7 : Int) (k7 : AHeap → R) (m : Nat) : law08_heavy_L0 t0 t7 k7 (m + 1) = law08_heavy_L0b t0 t7 k7 (law08_heavy_L0 t0 t7 k7 m) := rfl
noncomputable def law08_heavy (_ : CallF) (n : Nat) (t0 : AV) (h : AHeap) : R :=
 obind (lenL t0) fun t7 =>
 lett (fun  (h_8 : AHeap) =>
  obind (lenL t0) fun t25 =>
  lett (decide (t25 > 100)) fun (t26 : Bool) =>
  some (.ret (.bool t26), h_8)) fun k7 =>
 law08_heavy_L0 t0 t7 k7 n 0 0 h
set_option maxHeartbeats 4000000 in
set_option maxRecDepth 20000 in
theorem law08_heavy_ok {call : CallF} (_ : SaysAll Try.prog call) {n : Nat} {t0 : AV} {h : AHeap} {rR : ARes} {hR : AHeap} (hF : law08_heavy call n t0 h = some (rR, hR)) : Says Try.prog 19 [t0] h rR hR := by
 unfold law08_heavy at hF
 refine sO Try.func19 fun w0 m0 => ?_
 refine wW [(0, t0)] ?_
 refine oG fun n1 => W.r ?_
 refine oA 2 (.bool false) ?_
 refine oV [(0, t0)] (n1 ?_)
 refine oG fun n2 => W.r ?_
 refine oA 3 (.int .i64 0) ?_
 refine oV [(0, t0), (3, .int .i64 0)] (n2 ?_)
 refine W.s (fun K3 n3 e3 q3 p3 => ?_)
 refine oG fun n4 => W.r ?_
 refine oA 6 t0 ?_
 refine oM 7 41 49 hF fun t7 hF => ?_
 refine oA 8 (.int .i64 0) ?_
 refine oV [(0, t0), (3, .int .i64 0), (6, t0), (7, .int .i64 t7), (8, .int .i64 0)] (n4 ?_)
 obtain ⟨k7, e7, hF⟩ := lett_some hF
 have J7 : ∀  (h_8 : AHeap), k7 h_8 = some (rR, hR) → Go w0 m0 (Func.ntmps Try.f19) (K3 .normal) [(0, t0)] [] h_8 := by
  intro  h_8 hF
  rw [e7] at hF
  refine n3 ?_
  refine oG fun n9 => W.r ?_
  refine oA 24 t0 ?_
  refine oM 25 41 49 hF fun t25 hF => ?_
  refine oB 26 hF fun t26 hF => ?_
  refine oA 2 (.bool t26) ?_
  refine oV [(2, .bool t26)] (n9 (oY ?_))
  exact lZ hF [.tmp 2] [.bool t26] (rT res_nil)
 refine W.blockK (by kernel_rfl) (fun K6 n6 s6 o6 q6 p6 => ?_)
 refine W.loopK (by kernel_rfl) (fun I12 K12 b12 n12 e12 q12 p12 => ?_)
 have L12 : ∀ (m : Nat) (t3 : Int) (t8 : Int) (h_13 : AHeap), law08_heavy_L0 t0 t7 k7 m t3 t8 h_13 = some (rR, hR) → Go w0 m0 (Func.ntmps Try.f19) I12 [(0, t0), (3, .int .i64 t3), (6, t0), (7, .int .i64 t7), (8, .int .i64 t8)] [] h_13 := by
  intro m
  induction m with
  | zero => intro t3 t8 h_13 hF; cases hF
  | succ m ih12 =>
   intro t3 t8 h_13 hF
   rw [law08_heavy_L0_s] at hF; unfold law08_heavy_L0b at hF
   refine b12 ?_
   refine oG fun n14 => W.r ?_
   refine oB 9 hF fun t9 hF => ?_
   refine oV [(0, t0), (3, .int .i64 t3), (6, t0), (7, .int .i64 t7), (8, .int .i64 t8), (9, .bool t9)] (n14 ?_)
   refine W.s (fun K16 n16 e16 q16 p16 => ?_)
   cases t9 with
   | true =>
    refine oT hF fun hF => ?_
    refine oZ (n16 ?_)
    refine oH fun n17 q17 => ?_
    refine W.blockK (by kernel_rfl) (fun K18 n18 s18 o18 q18 p18 => ?_)
    refine oG fun n19 => W.r ?_
    refine oP 10 41 49 .i64 hF fun t10 hF => ?_
    refine oR 11 49 hF fun t11 hF => ?_
    refine oN 5 hF fun h_22 hF => ?_
    refine oW 49 (.agg t11) hF fun h_24 hF => ?_
    refine oV [(0, t0), (3, .int .i64 t3), (5, (newP h_13)), (6, t0), (7, .int .i64 t7), (8, .int .i64 t8)] (n19 ?_)
    refine oH fun n26 q26 => ?_
    refine oG fun n27 => W.r ?_
    refine oA 12 (AV.ptr (AHeap.next h_13) 4) ?_
    refine oLs 13 9 hF fun t13 hF => ?_
    refine oA 14 (.int .i64 (lenS t13)) ?_
    refine oA 15 (.int .i64 t3) ?_
    refine oI 16 .i64 hF fun t16 hF => ?_
    refine oB 17 hF fun t17 hF => ?_
    refine oV [(0, t0), (3, .int .i64 t3), (5, (newP h_13)), (6, t0), (7, .int .i64 t7), (8, .int .i64 t8), (17, .bool t17)] (n27 ?_)
    cases t17 with
    | true =>
     refine oT hF fun hF => ?_
     refine oG fun n32 => W.r ?_
     refine oA 2 (.bool true) ?_
     refine oV [(2, .bool true)] (n32 (oY (q26 (q18 (q17 (q12 (q6 (q3 ?_))))))))
     exact lZ hF [.tmp 2] [.bool true] (rT res_nil)
    | false =>
     refine oU hF fun hF => ?_
     refine oZ (n26 (W.r ?_))
     refine oA 18 (.int .i64 t3) ?_
     refine oA 19 (AV.ptr (AHeap.next h_13) 4) ?_
     refine oLs 20 9 hF fun t20 hF => ?_
     refine oA 21 (.int .i64 (lenS t20)) ?_
     refine oI 22 .i64 hF fun t22 hF => ?_
     refine oA 3 (.int .i64 t22) ?_
     refine oV [(0, t0), (3, .int .i64 t22), (6, t0), (7, .int .i64 t7), (8, .int .i64 t8)] (n18 (n17 (W.r ?_)))
     refine oI 23 .i64 hF fun t23 hF => ?_
     refine oA 8 (.int .i64 t23) ?_
     refine oV [(0, t0), (3, .int .i64 t22), (6, t0), (7, .int .i64 t7), (8, .int .i64 t23)] (n12 ?_)
     exact gW _ (ih12 _ _ _ hF)
   | false =>
    refine oU hF fun hF => ?_
    refine W.exit (by kernel_rfl) ?_
    refine e16 (e12 ?_)
    refine s6 (by kernel_rfl) ?_
    exact gW _ (J7 _ hF)
 exact gW _ (L12 _ _ _ _ hF)
noncomputable def wLS (n : Nat) : List LSite := [vote_look_R0 n]
theorem wLS_ok (n : Nat) : ∀ s ∈ wLS n, s.ok Try.prog := by
 intro s hs
 unfold wLS at hs
 rcases List.mem_cons.1 hs with rfl | hs
 ·exact vote_look_R0_ok n
 cases hs
theorem wLS_vote_look_R0 (n : Nat) (st : LoopState) (j : AJump) (t : T AV) (D : Nat) : lsite (wLS n) ⟨st, j, t, (vote_look_R0 n).N, Code.rgp (vote_look_R0 n).c, Code.r1 (vote_look_R0 n).c, Code.r2 (vote_look_R0 n).c, D⟩ = some (vote_look_R0 n) := lsite_hit rfl rfl rfl
noncomputable def wLT (n : Nat) (both : BothF) : List (FuncId × FnT) := [(68, frame_All_1_fn both n), (29, vote_look_fn both n), (10, fn1 Dv (vote_Open (both false) n)), (8, fn0 (law08_works (both false) n)), (19, fn1 Dv (law08_heavy (both false) n))]
theorem wLT_ok (n : Nat) (both : BothF) (hc : BothAll Try.prog both) : SaysAll Try.prog (callOf (wLT n both)) := callOf_cons (frame_All_1_holds hc n) (callOf_cons (vote_look_holds hc n) (callOf_cons (fn1_holds Dv (vote_Open_ok hc.says)) (callOf_cons (fn0_holds (law08_works_ok hc.says)) (callOf_cons (fn1_holds Dv (law08_heavy_ok hc.says)) (callOf_nil)))))
noncomputable def wL (n D d : Nat) : BothF := worldL (wLS n) (wLT n) (world n D) d
theorem wL_ok (n D d : Nat) : BothAll Try.prog (wL n D d) := worldL_ok (wLS_ok n) (wLT_ok n) (world_ok n D) d
theorem wL_r (n D d b : Nat) (args : List AV) (h : AHeap) : wL n D (d + 1) true b args h = roundL (wLS n) (wL n D d) b args h := rfl
theorem wL_b (f : FuncId) {n D d : Nat} {args : List AV} {h : AHeap} (hf : ([68, 29, 10, 8, 19].all fun i => !Nat.beq i f) = true := by kernel_rfl) : wL n D (d + 1) false f args h = world n D f args h := worldL_base (callOf_none _ _ _ hf)
theorem wL_frame_All_1 (n D d : Nat) (t0 : AV) (t1 : AV) {h : AHeap} {x : ARes × AHeap} (e : frame_All_1 (wL n D d) n t0 t1 h = some x) : wL n D (d + 1) false 68 [t0, t1] h = some x :=
 worldL_top (Eq.trans (b := frame_All_1_fn (wL n D d) n [t0, t1] h) (by kernel_rfl) ((frame_All_1_fn_eq (wL n D d) n t0 t1 h).trans e))
theorem wL_vote_look (n D d : Nat) (t0 : AV) (t1 : Int) {h : AHeap} {x : ARes × AHeap} (e : vote_look (wL n D d) n t0 t1 h = some x) : wL n D (d + 1) false 29 [t0, .int .i64 t1] h = some x :=
 worldL_top (Eq.trans (b := vote_look_fn (wL n D d) n [t0, .int .i64 t1] h) (by kernel_rfl) ((vote_look_fn_eq (wL n D d) n t0 t1 h).trans e))
theorem wL_vote_Open (n D d : Nat) (t0 : AV) {h : AHeap} {x : ARes × AHeap} (e : vote_Open ((wL n D d) false) n t0 h = some x) : wL n D (d + 1) false 10 [t0] h = some x :=
 worldL_top (Eq.trans (b := fn1 Dv (vote_Open ((wL n D d) false) n) [t0] h) (by kernel_rfl) ((fn1_eq Dv _ t0 h).trans e))
theorem wL_law08_works (n D d : Nat)  {h : AHeap} {x : ARes × AHeap} (e : law08_works ((wL n D d) false) n  h = some x) : wL n D (d + 1) false 8 [] h = some x :=
 worldL_top (Eq.trans (b := fn0 (law08_works ((wL n D d) false) n) [] h) (by kernel_rfl) ((fn0_eq  _  h).trans e))
theorem wL_law08_heavy (n D d : Nat) (t0 : AV) {h : AHeap} {x : ARes × AHeap} (e : law08_heavy ((wL n D d) false) n t0 h = some x) : wL n D (d + 1) false 19 [t0] h = some x :=
 worldL_top (Eq.trans (b := fn1 Dv (law08_heavy ((wL n D d) false) n) [t0] h) (by kernel_rfl) ((fn1_eq Dv _ t0 h).trans e))
end Go.Proofs.Yteecmjmglmpbpaa
namespace Go.Proofs.Yteecmjmglmpbpaa.Abs
noncomputable section
open Go.RowKit
def BuB (U8 : TypeId) (h : AHeap) (b c : Nat) (buf : AV) (l : Bytes) : Prop :=
 (buf = .nsl ∧ l = [] ∧ c = b) ∨ (buf = .sl c 0 l.length 1 ∧ l ≠ [] ∧ c ≠ b ∧ c < h.next ∧ RowH h c U8 (bytesC l))
section
variable {P : Program} {TB U8 : TypeId} {h h' : AHeap} {b c : Nat} {buf : AV} {l : Bytes} {S : List Nat}
theorem BuB.one (k : BuB U8 h b c buf l) : buf.one = true ∧ AV.cells buf = [buf] ∧ lenL buf = some (l.length : Int) := by
 rcases k with ⟨rfl, rfl, _⟩ | ⟨rfl, _⟩ <;> exact ⟨rfl, rfl, rfl⟩
end
end
end Go.Proofs.Yteecmjmglmpbpaa.Abs
namespace Go.Proofs.Yteecmjmglmpbpaa.Abs
noncomputable section
open Go.RowKit
def kindV : AV → Nat
 | .bool _ => 0
 | .int _ _ => 1
 | .str _ _ => 2
 | _ => 9
def kindT (P : Program) (t : TypeId) : Nat := match P.underlying t with
 | some .bool => 0
 | some (.int _) => 1
 | some .string => 2
 | _ => 8
def fieldsFlat (P : Program) : List Field → List Nat → Nat → Bool
 | [], [], _ => true
 | f :: fs, k :: ks, o => (f.name != "_") && Nat.beq f.offset o && Nat.beq (kindT P f.type) k && fieldsFlat P fs ks (o + 1)
 | _, _, _ => false
def eqCell : AV → AV → Option Bool
 | .bool a, .bool b => some (a == b)
 | .int k a, .int k' b => if k = k' then some (a == b) else none
 | .str n a, .str m b => some (Nat.beq n m && Nat.beq a b)
 | _, _ => none
def eqL : List Nat → List AV → List AV → Option Bool
 | [], [], [] => some true
 | k :: ks, x :: xs, y :: ys => if kindV x = k then match eqCell x y with
  | some true => eqL ks xs ys
  | r => r else none
 | _, _, _ => none
section
variable {P : Program}
theorem eqA_cell {d : Nat} {t : TypeId} {x y : AV} {b : Bool} (hk : kindV x = kindT P t) (he : eqCell x y = some b) : eqA P (d + 1) t x y = some b := by
 unfold kindT at hk
 unfold eqA
 cases hu : P.underlying t with
 | none => rw [hu] at hk; cases x <;> simp [kindV] at hk
 | some u =>
  rw [hu] at hk
  cases u <;> cases x <;> simp [kindV] at hk <;> cases y <;> simp [eqCell] at he <;> simp_all
theorem partA_cell {t : TypeId} {l : List AV} {o : Nat} {x : AV} (hk : kindT P t < 3) (hx : l[o]? = some x) : partA P t l o = some x := by
 unfold kindT at hk
 unfold partA
 cases hu : P.underlying t with
 | none => rw [hu] at hk; simp at hk
 | some u =>
  rw [hu] at hk
  cases u <;> simp at hk <;> simp [aggO, hu, isRowD, hx]
theorem kind_lt {x y : AV} {b : Bool} (he : eqCell x y = some b) : kindV x < 3 := by
 cases x <;> cases y <;> simp [eqCell] at he <;> simp [kindV]
theorem eqFields_flat : ∀ (fs : List Field) (ks : List Nat) (o d : Nat) (xs ys px py : List AV) (b : Bool), fieldsFlat P fs ks o = true → px.length = o → py.length = o → eqL ks xs ys = some b → fs.length < d → eqFields P (d + 1) fs (px ++ xs) (py ++ ys) = some b
 | [], ks, o, d, xs, ys, px, py, b, hf, _, _, he, _ => by
  cases ks with
  | cons k ks => simp [fieldsFlat] at hf
  | nil =>
   cases xs <;> cases ys <;> simp [eqL] at he
   subst he
   rfl
 | f :: fs, ks, o, d, xs, ys, px, py, b, hf, hx, hy, he, hd => by
  cases ks with
  | nil => simp [fieldsFlat] at hf
  | cons k ks =>
   cases xs with
   | nil => simp [eqL] at he
   | cons x xs =>
    cases ys with
    | nil => simp [eqL] at he
    | cons y ys =>
     simp only [fieldsFlat, Bool.and_eq_true] at hf
     obtain ⟨⟨⟨h1, h2⟩, h3⟩, h4⟩ := hf
     have h1 : ¬ f.name = "_" := by simpa using h1
     have h2 := Nat.eq_of_beq_eq_true h2
     have h3 := Nat.eq_of_beq_eq_true h3
     simp only [eqL] at he
     split at he
     ·rename_i hk
      have hlx : (px ++ x :: xs)[o]? = some x := by rw [List.getElem?_append_right (by omega), hx, Nat.sub_self]; rfl
      have hly : (py ++ y :: ys)[o]? = some y := by rw [List.getElem?_append_right (by omega), hy, Nat.sub_self]; rfl
      obtain ⟨d', rfl⟩ : ∃ d', d = d' + 1 := ⟨d - 1, by simp only [List.length_cons] at hd; omega⟩
      cases hc : eqCell x y with
      | none => rw [hc] at he; cases he
      | some c =>
       have hk3 := kind_lt hc
       rw [hc] at he
       unfold eqFields
       rw [if_neg h1, h2, partA_cell (by omega) hlx, partA_cell (by omega) hly]
       simp only
       rw [eqA_cell (d := d') (by omega) hc]
       cases c with
       | false => exact he
       | true =>
        simp only at he ⊢
        have := eqFields_flat fs ks (o + 1) d' xs ys (px ++ [x]) (py ++ [y]) b h4 (by simp [hx]) (by simp [hy]) he (by simp only [List.length_cons] at hd; omega)
        simpa using this
     ·cases he
def flatB (P : Program) (t : TypeId) (ks : List Nat) : Bool := (match P.underlying t with
 | some (.struct _) => true
 | _ => false) && !(P.eqGuardType P.depth t) && !(P.stoodInHeld t) && fieldsFlat P (P.fieldsOf t).toList ks 0 && Nat.blt (P.fieldsOf t).toList.length 1000
theorem eq_flat {t : TypeId} {ks : List Nat} {xs ys : List AV} {b : Bool} (hf : flatB P t ks = true) (he : eqL ks xs ys = some b) : eqOther P t (.agg xs) (.agg ys) = some b := by
 unfold flatB at hf
 simp only [Bool.and_eq_true, Bool.not_eq_true'] at hf
 obtain ⟨⟨⟨⟨h1, h2⟩, h3⟩, h4⟩, h5⟩ := hf
 have h5 : (P.fieldsOf t).toList.length < 1000 := Nat.le_of_ble_eq_true h5
 unfold eqOther
 simp only [h2, Bool.false_eq_true, if_false]
 unfold eqA
 cases hu : P.underlying t with
 | none => rw [hu] at h1; cases h1
 | some u =>
  rw [hu] at h1
  cases u <;> simp at h1
  simp only [h3, Bool.false_eq_true, if_false]
  exact eqFields_flat _ ks 0 1998 xs ys [] [] b h4 rfl rfl he (by omega)
end
theorem eqCell_int (k : IntKind) (a b : Int) : eqCell (.int k a) (.int k b) = some (a == b) := by simp [eqCell]
theorem eqL_cons {k : Nat} {ks : List Nat} {x y : AV} {xs ys : List AV} {b c : Bool} (hk : kindV x = k) (h1 : eqCell x y = some b) (h2 : eqL ks xs ys = some c) : eqL (k :: ks) (x :: xs) (y :: ys) = some (b && c) := by
 simp only [eqL, hk, if_true, h1]
 cases b with
 | true => simpa using h2
 | false => rfl
end
end Go.Proofs.Yteecmjmglmpbpaa.Abs
namespace Go.Proofs.Yteecmjmglmpbpaa.Abs
noncomputable section
open Go.RowKit
abbrev RowT := Nat × TypeId × List AV
structure Mem (S : List Nat) (h0 h : AHeap) (rs : List RowT) : Prop where
 row : ∀ x ∈ rs, RowH h x.1 x.2.1 x.2.2 ∧ x.1 < h.next ∧ (x.1 ∈ S ∨ h0.next ≤ x.1)
 apart : (rs.map (·.1)).Nodup
 tch : Tch S h0 h
section
variable {S : List Nat} {h0 h h' : AHeap} {xs ys rs : List RowT} {b o n : Nat} {e : TypeId} {l l' vs : List AV} {v : AV} {Q : ARes → AHeap → Prop} {K : AHeap → R} {x : R} {x0 x1 x2 x3 x4 : RowT}
theorem Mem.nil (S : List Nat) (h : AHeap) : Mem S h h [] := ⟨by simp, by simp, Tch.refl _ _⟩
theorem Mem.one (k : RowH h b e l) (hb : b < h.next) : Mem [b] h h [(b, e, l)] := ⟨by simpa using ⟨k, hb⟩, by simp, Tch.refl _ _⟩
theorem Mem.at (M : Mem S h0 h (xs ++ (b, e, l) :: ys)) : RowH h b e l ∧ b < h.next ∧ (b ∈ S ∨ h0.next ≤ b) := M.row (b, e, l) (by simp)
theorem Mem.upd (M : Mem S h0 h (xs ++ (b, e, l) :: ys)) (ht : Tch [b] h h') (k : RowH h' b e l') : Mem S h0 h' (xs ++ (b, e, l') :: ys) := by
 have hap := M.apart
 have hle := ht.1
 simp only [List.map_append, List.map_cons] at hap
 have hne : ∀ x ∈ xs ++ ys, x.1 ≠ b := by
  intro x hx hxb
  rw [List.nodup_append] at hap
  obtain ⟨_, h2, h3⟩ := hap
  rw [List.nodup_cons] at h2
  rcases List.mem_append.1 hx with hx | hx
  ·exact h3 x.1 (List.mem_map_of_mem hx) b (by simp) hxb
  ·exact h2.1 (by rw [← hxb]; exact List.mem_map_of_mem hx)
 refine ⟨fun x hx => ?_, by simpa only [List.map_append, List.map_cons] using hap, M.tch.trans' ht fun i hi => ?_⟩
 ·have hx' : x ∈ xs ++ ys ∨ x = (b, e, l') := by
   rcases List.mem_append.1 hx with hx | hx
   ·exact .inl (List.mem_append_left _ hx)
   ·rcases List.mem_cons.1 hx with hx | hx
    ·exact .inr hx
    ·exact .inl (List.mem_append_right _ hx)
  rcases hx' with hx' | rfl
  ·obtain ⟨h1, h2, h3⟩ := M.row x (by
    rcases List.mem_append.1 hx' with hx | hx
    ·exact List.mem_append_left _ hx
    ·exact List.mem_append_right _ (List.mem_cons_of_mem _ hx))
   exact ⟨h1.tch ht h2 (by simpa using hne x hx'), by omega, h3⟩
  ·have := M.at
   exact ⟨k, by show b < h'.next; omega, this.2.2⟩
 ·simp only [List.mem_cons, List.not_mem_nil, or_false] at hi
  subst hi
  exact M.at.2.2
theorem Mem.keep (M : Mem S h0 h rs) (ht : Tch [] h h') : Mem S h0 h' rs := by
 have hle := ht.1
 refine ⟨fun x hx => ?_, M.apart, M.tch.trans (ht.mono (by simp))⟩
 obtain ⟨h1, h2, h3⟩ := M.row x hx
 exact ⟨h1.tch ht h2 (by simp), by omega, h3⟩
theorem Mem.new (M : Mem S h0 h rs) (ht : Tch [] h h') (k : RowH h' b e l) (hb : h.next ≤ b) (hb2 : b < h'.next) : Mem S h0 h' ((b, e, l) :: rs) := by
 have M' := M.keep ht
 have hle := M.tch.1
 refine ⟨fun x hx => ?_, ?_, M'.tch⟩
 ·rcases List.mem_cons.1 hx with rfl | hx
  ·exact ⟨k, hb2, .inr (by show h0.next ≤ b; omega)⟩
  ·exact M'.row x hx
 ·rw [List.map_cons, List.nodup_cons]
  refine ⟨fun hm => ?_, M.apart⟩
  obtain ⟨x, hx, hxb⟩ := List.mem_map.1 hm
  have := (M.row x hx).2.1
  omega
theorem Mem.newH (M : Mem S h0 h rs) (e : TypeId) (l : List AV) : Mem S h0 (newH h e l) ((h.next, e, l) :: rs) := M.new (Tch.newH _ _ _ _) (RowH.new _ _ _) (Nat.le_refl _) (Nat.lt_succ_self _)
theorem Mem.ex (M : Mem S h0 h rs) : h.ex = h0.ex := M.tch.2.1
theorem Wp.mnew (M : Mem S h0 h rs) (hk : ∀ h', Mem S h0 h' ((h.next, e, l) :: rs) → Wp (K h') Q) : Wp (Abs.lett (Abs.newH h e l) K) Q := hk _ (M.newH e l)
theorem Wp.mbox {K : AV → AHeap → R} (M : Mem S h0 h rs) (h1 : l.all AV.one = true) (hk : ∀ h', Mem S h0 h' ((h.next, e, l) :: rs) → Wp (K (.ptr h.next 0) h') Q) : Wp (Abs.outK (opBox h e (some (.agg l))) K) Q :=
 Wp.outK (box_agg h1) (hk _ (M.newH e l))
theorem Wp.mnews {K : AV → AHeap → R} {w : OutT} {sz : Nat} (M : Mem S h0 h rs) (eb : w = outNewS h e l n sz) (h1 : l.all AV.one = true) (hex : memB e h0.ex = false) (hk : ∀ h', Mem S h0 h' ((h.next, e, l) :: rs) → Wp (K (.sl h.next 0 n sz) h') Q) : Wp (Abs.outK w K) Q := by
 refine Wp.outK (v := .sl h.next 0 n sz) (h1 := Abs.newH h e l) ?_ (hk _ (M.newH e l))
 rw [eb]
 unfold outNewS
 rw [if_pos ⟨h1, by rw [M.ex]; exact hex⟩]
 rfl
theorem and_t {a c : Bool} (h1 : a = true) (h2 : c = true) : (a && c) = true := by rw [h1, h2]; rfl
theorem Mem.at0 (M : Mem S h0 h ((b, e, l) :: ys)) : RowH h b e l ∧ b < h.next ∧ (b ∈ S ∨ h0.next ≤ b) := Mem.at (xs := []) M
theorem Wp.ld0 {K : AV → R} (M : Mem S h0 h ((b, e, l) :: ys)) (ho : l[o]? = some v) (hk : Wp (K v) Q) : Wp (Abs.obind (ldCell h (.ptr b o)) K) Q := Wp.obind (RowH.cell' (Mem.at (xs := []) M).1 ho) hk
theorem Wp.lr0 {K : List AV → R} (M : Mem S h0 h ((b, e, l) :: ys)) (hn : l.length = n) (hk : Wp (K l) Q) : Wp (Abs.obind (ldRow h n (.ptr b 0)) K) Q := Wp.obind (RowH.ldAll (Mem.at (xs := []) M).1 hn) hk
theorem Wp.sa0 (M : Mem S h0 h ((b, e, l) :: ys)) (hn : vs.length = n) (hl : l.length = n) (h1 : vs.all AV.one = true) (hk : ∀ h', Mem S h0 h' ((b, e, vs) :: ys) → Wp (K h') Q) : Wp (Abs.obind (stRow h n vs (.ptr b 0)) K) Q :=
 Wp.stAll (Mem.at (xs := []) M).1 hn hl h1 fun h' k' t' _ => hk h' (Mem.upd (xs := []) M t' k')
theorem Wp.ms0 (M : Mem S h0 h ((b, e, l) :: ys)) (ho : o < l.length) (h1 : v.one = true) (hk : ∀ h', Mem S h0 h' ((b, e, l.set o v) :: ys) → Wp (K h') Q) : Wp (Abs.obind (stRow h 1 [v] (.ptr b o)) K) Q :=
 Wp.st1 (Mem.at (xs := []) M).1 ho h1 fun h' k' t' _ => hk h' (Mem.upd (xs := []) M t' k')
theorem Mem.at1 (M : Mem S h0 h (x0 :: (b, e, l) :: ys)) : RowH h b e l ∧ b < h.next ∧ (b ∈ S ∨ h0.next ≤ b) := Mem.at (xs := [x0]) M
theorem Wp.lr1 {K : List AV → R} (M : Mem S h0 h (x0 :: (b, e, l) :: ys)) (hn : l.length = n) (hk : Wp (K l) Q) : Wp (Abs.obind (ldRow h n (.ptr b 0)) K) Q := Wp.obind (RowH.ldAll (Mem.at (xs := [x0]) M).1 hn) hk
theorem Wp.sa1 (M : Mem S h0 h (x0 :: (b, e, l) :: ys)) (hn : vs.length = n) (hl : l.length = n) (h1 : vs.all AV.one = true) (hk : ∀ h', Mem S h0 h' (x0 :: (b, e, vs) :: ys) → Wp (K h') Q) : Wp (Abs.obind (stRow h n vs (.ptr b 0)) K) Q :=
 Wp.stAll (Mem.at (xs := [x0]) M).1 hn hl h1 fun h' k' t' _ => hk h' (Mem.upd (xs := [x0]) M t' k')
end
end
end Go.Proofs.Yteecmjmglmpbpaa.Abs
namespace Go.Proofs.Yteecmjmglmpbpaa.Abs
noncomputable section
open Go.RowKit
def GrowT (e : TypeId) (sz : Nat) (rows : List (List AV)) (v : AV) (T : List RowT) : Prop :=
 (∀ r ∈ rows, r.length = sz ∧ r.all AV.one = true) ∧ ((rows = [] ∧ v = .nsl ∧ T = []) ∨ (rows ≠ [] ∧ ∃ c, v = .sl c 0 rows.length sz ∧ T = [(c, e, rows.flatten)]))
section
variable {P : Program} {S : List Nat} {h0 h h' : AHeap} {xs ys rs T : List RowT} {b o n sz B : Nat} {e t u : TypeId} {l l' vs r : List AV} {v x : AV} {rows : List (List AV)} {Q : ARes → AHeap → Prop}
theorem GrowT.one (g : GrowT e sz rows v T) : v.one = true ∧ AV.cells v = [v] := by
 rcases g.2 with ⟨rfl, rfl, _⟩ | ⟨_, c, rfl, _⟩ <;> exact ⟨rfl, rfl⟩
theorem Mem.frame (M : Mem S h0 h (xs ++ rs)) (M' : Mem (xs.map (·.1)) h h' ys) : Mem S h0 h' (ys ++ rs) := by
 have hap := M.apart
 rw [List.map_append, List.nodup_append] at hap
 obtain ⟨a1, a2, a3⟩ := hap
 have hxs : ∀ b ∈ xs.map (·.1), b ∈ S ∨ h0.next ≤ b := by
  intro b hb
  obtain ⟨x, hx, rfl⟩ := List.mem_map.1 hb
  exact (M.row x (List.mem_append_left _ hx)).2.2
 have hle := M.tch.1
 have hle' := M'.tch.1
 refine ⟨fun x hx => ?_, ?_, M.tch.trans' M'.tch hxs⟩
 ·rcases List.mem_append.1 hx with hx | hx
  ·obtain ⟨h1, h2, h3⟩ := M'.row x hx
   exact ⟨h1, h2, h3.elim (fun h => hxs _ h) (fun h => .inr (by omega))⟩
  ·obtain ⟨h1, h2, h3⟩ := M.row x (List.mem_append_right _ hx)
   exact ⟨h1.tch M'.tch h2 (fun hm => a3 x.1 hm x.1 (List.mem_map_of_mem hx) rfl), by omega, h3⟩
 ·rw [List.map_append, List.nodup_append]
  refine ⟨M'.apart, a2, fun a ha b hb hab => ?_⟩
  subst hab
  obtain ⟨x, hx, rfl⟩ := List.mem_map.1 ha
  rcases (M'.row x hx).2.2 with h | h
  ·exact a3 _ h _ hb rfl
  ·obtain ⟨y, hy, hyx⟩ := List.mem_map.1 hb
   have := (M.row y (List.mem_append_right _ hy)).2.1
   omega
end
end
end Go.Proofs.Yteecmjmglmpbpaa.Abs
