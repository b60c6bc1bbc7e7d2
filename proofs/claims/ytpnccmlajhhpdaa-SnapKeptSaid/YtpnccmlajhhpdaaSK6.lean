/- What snapKept_proved stands on, part 6 of 8. -/
import Derived.Test.YtpnccmlajhhpdaaSK5
namespace Go.Proofs.Ytpnccmlajhhpdaa.Abs
noncomputable section
open Go.RowKit
section
variable (P : Program) (w0 : Base) (m0 : Map) (N : Nat) (rd : Option Nat) (n : Nat)
def WR (c : Code) (Q : Exit → Act → World → Prop) (l : Fr) (ds : DefT) (h : AHeap) : Prop := Go w0 m0 N (c.wpIn (FW rd) n P Q) l ds h
def WLR (ops : Array Oper) (i : Nat) (Q : Exit → Act → World → Prop) (l : Fr) (ds : DefT) (h : AHeap) : Prop := Go w0 m0 N (wpListIn (FW rd) n P ops Q (ops.toList.drop i)) l ds h
def InLR (c : Code) (Q : Exit → Act → World → Prop) (act : Act) (w : World) : Prop := ∀ (b : Frame) (k : List Item) (cs : List Frame), b.roundOf = (FW rd).round →
 ∃ e a' w', Q e a' w' ∧ ArrivesIn (Machine.fenced P (FW rd)) P (lone (b.atR act (.code c :: .inLoop c :: k)) cs w) b k cs e a' w'
end
section
variable {P : Program} {w0 : Base} {m0 : Map} {N : Nat} {rd : Option Nat} {n : Nat} {l l' : Fr} {ds : DefT} {h h' : AHeap} {Q : Exit → Act → World → Prop} {K : Act → World → Prop} {both : BothF}
theorem WR.weaken {c : Code} (hs : l.sub l') (hk : WR P w0 m0 N rd n c Q l' ds h) : WR P w0 m0 N rd n c Q l ds h := Go.weaken hs hk
theorem WLR.weaken {ops : Array Oper} {i : Nat} (hs : l.sub l') (hk : WLR P w0 m0 N rd n ops i Q l' ds h) : WLR P w0 m0 N rd n ops i Q l ds h := Go.weaken hs hk
theorem WR.skip {c : Code} (hc : Code.kind c = 0) (hk : Go w0 m0 N (Q .normal) l ds h) : WR P w0 m0 N rd n c Q l ds h := by
 cases c <;> first | (exact fun m act w he ha F => wpIn_skip (hk m act w he ha F)) | (simp [Code.kind] at hc; done) | (rename_i d; cases d <;> simp [Code.kind] at hc)
theorem WR.seq {c : Code} (hc : Code.kind c = 1) (hk : WR P w0 m0 N rd n (Code.p1 c) (Exit.then ((Code.p2 c).wpIn (FW rd) n P Q) Q) l ds h) : WR P w0 m0 N rd n c Q l ds h := by
 cases c <;> first | (exact fun m act w he ha F => wpIn_seq (hk m act w he ha F)) | (simp [Code.kind] at hc; done) | (rename_i d; cases d <;> simp [Code.kind] at hc)
theorem WR.cond_true {c : Code} (hc : Code.kind c = 2) (hv : l.eval (Code.opd c) = some (.bool true)) (hk : WR P w0 m0 N rd n (Code.p1 c) Q l ds h) : WR P w0 m0 N rd n c Q l ds h := by
 cases c <;> first | (exact fun m act w he ha F => wpIn_cond_true (rel_bool (eval_ok (a := ⟨l.tree, ds⟩) (fun t _ => ha.tmps t) _ (by rw [Fr.eval_tree]; exact hv))) (hk m act w he ha F)) | (simp [Code.kind] at hc; done) | (rename_i d; cases d <;> simp [Code.kind] at hc)
theorem WR.cond_false {c : Code} (hc : Code.kind c = 2) (hv : l.eval (Code.opd c) = some (.bool false)) (hk : WR P w0 m0 N rd n (Code.p2 c) Q l ds h) : WR P w0 m0 N rd n c Q l ds h := by
 cases c <;> first | (exact fun m act w he ha F => wpIn_cond_false (rel_bool (eval_ok (a := ⟨l.tree, ds⟩) (fun t _ => ha.tmps t) _ (by rw [Fr.eval_tree]; exact hv))) (hk m act w he ha F)) | (simp [Code.kind] at hc; done) | (rename_i d; cases d <;> simp [Code.kind] at hc)
theorem WR.block {c : Code} (hc : Code.kind c = 3) (hk : WR P w0 m0 N rd n (Code.p1 c) (Exit.inBlock (Code.num c) Q) l ds h) : WR P w0 m0 N rd n c Q l ds h := by
 cases c <;> first | (exact fun m act w he ha F => wpIn_block (hk m act w he ha F)) | (simp [Code.kind] at hc; done) | (rename_i d; cases d <;> simp [Code.kind] at hc)
theorem WR.exit {c : Code} (hc : Code.kind c = 5) (hk : Go w0 m0 N (Q (.exit (Code.num c))) l ds h) : WR P w0 m0 N rd n c Q l ds h := by
 cases c <;> first | (exact fun m act w he ha F => wpIn_exit (hk m act w he ha F)) | (simp [Code.kind] at hc; done) | (rename_i d; cases d <;> simp [Code.kind] at hc)
theorem WR.ret {c : Code} (hc : Code.kind c = 6) (hk : Go w0 m0 N (Q .ret) l ds h) : WR P w0 m0 N rd n c Q l ds h := by
 cases c <;> first | (exact fun m act w he ha F => wpIn_ret (hk m act w he ha F)) | (simp [Code.kind] at hc; done) | (rename_i d; cases d <;> simp [Code.kind] at hc)
theorem InLR.round {c : Code} {act : Act} {w : World} (hk : c.wpIn (FW rd) n P (Exit.then (InLR P rd c Q) Q) act w) : InLR P rd c Q act w := by
 intro b k cs hro
 have hb : (FW rd).fn b.fn := trivial
 have hr : (FW rd).room (cs.length + 1 + n) := room_wide _
 obtain ⟨e1, a1, w1, hq, harr⟩ := hk b (.inLoop c :: k) cs hro hb hr
 cases e1 with
 | normal =>
  obtain ⟨e3, a3, w3, hq3, harr3⟩ := hq b k cs hro
  exact ⟨e3, a3, w3, hq3, .of_steps (StepsIn.trans harr (.one (fenced_calm hb hr rfl) stepR_inLoop)) harr3⟩
 | exit id => exact ⟨_, a1, w1, hq, .pass (x := .inLoop c) rfl (fun _ _ => .inl (by simp)) harr⟩
 | goto l => exact ⟨_, a1, w1, hq, .pass (x := .inLoop c) rfl (fun _ _ => .inl (by simp)) harr⟩
 | ret => exact ⟨_, a1, w1, hq, .pass (x := .inLoop c) rfl (fun _ _ => .inl (by simp)) harr⟩
 | panic ch => exact ⟨_, a1, w1, hq, .pass (x := .inLoop c) rfl (fun _ _ => .inl (by simp)) harr⟩
 | outgrown => exact ⟨_, a1, w1, hq, .pass (x := .inLoop c) rfl (fun _ _ => .inl (by simp)) harr⟩
theorem WR.loop {c : Code} (hc : Code.kind c = 4) (hk : Go w0 m0 N (InLR P rd (Code.p1 c) Q) l ds h) : WR P w0 m0 N rd n c Q l ds h := by
 obtain ⟨x, rfl⟩ := kind_loop hc
 intro m act w he ha F b k cs hro hb hr
 obtain ⟨e, a', w', q, r⟩ := hk m act w he ha F b k cs hro
 exact ⟨e, a', w', q, .of_steps (.one (fenced_calm hb hr rfl) stepR_loop) r⟩
theorem Go.roundR {c : Code} (hk : WR P w0 m0 N rd n c (Exit.then (InLR P rd c Q) Q) l ds h) : Go w0 m0 N (InLR P rd c Q) l ds h := fun m act w he ha F => InLR.round (n := n) (hk m act w he ha F)
def noneBoth : BothF := fun _ _ _ _ => none
theorem noneBoth_ok : BothOK P w0 noneBoth := ⟨(fun _ _ _ _ _ h => nomatch h), (fun _ _ _ _ _ h => nomatch h)⟩
def isDefer (o : Oper) : Bool := match o.op with
 | .defer _ => true
 | _ => false
def dstR (N : Nat) (ops : Array Oper) (i : Nat) : Option (Option Nat) := match ops[i]? with
 | some o => match okDst N o && !isDefer o with
  | true => some o.dst
  | false => none
 | none => none
theorem dstR_ok {ops : Array Oper} {i : Nat} {d : Option Nat} (hd : dstR N ops i = some d) : ∃ o, ops[i]? = some o ∧ okDst N o = true ∧ (∀ c, o.op ≠ .defer c) ∧ o.dst = d := by
 unfold dstR at hd
 split at hd
 ·rename_i o ho
  split at hd
  ·rename_i hk
   rw [Bool.and_eq_true] at hk
   simp only [Option.some.injEq] at hd
   refine ⟨o, ho, hk.1, fun c e => ?_, hd⟩
   have := hk.2
   unfold isDefer at this
   rw [e] at this
   cases this
  ·cases hd
 ·cases hd
theorem stepR_ok1 (hc : BothOK P w0 both) {ops : Array Oper} {o : Oper} {ol : List Oper} {a : AAct} {st : AStep} {m : Map} {act : Act} {H : AHeap} {w : World} (ha : RelAct m N a act) (F : Fits w0 m H w) (ho : okDst N o = true) (hnd : ∀ c, o.op ≠ .defer c) (hst : stepR P both ops o a H = some st)
  (hgo : ∀ (a' : AAct) (h' : AHeap), st = .go a' h' → ∀ (m' : Map) (act' : Act) (w' : World), Ext m m' → RelAct m' N a' act' → Fits w0 m' h' w' → wpListIn (FW rd) n P ops Q ol act' w')
  (hpn : ∀ (v : AV) (h' : AHeap), st = .panic v h' → ∀ (m' : Map) (w' : World) (v' : Value), Ext m m' → Fits w0 m' h' w' → Rel m' v v' → Q (.panic [{ v := v', recovered := false }]) act w') :
  wpListIn (FW rd) n P ops Q (o :: ol) act w := by
 have hd' : ∀ t, o.dst = some t → t < N := by
  intro t ht
  simp only [okDst, ht] at ho
  exact Nat.le_of_ble_eq_true ho
 rw [wpListIn]
 unfold stepR at hst
 split at hst
 ·rename_i hw
  rw [wanted_ok (fun t _ => ha.tmps t) hw]
  simp only [if_true]
  cases hop : opA P a.eval o H with
  | none => rw [hop] at hst; cases hst
  | some p =>
   obtain ⟨nx, H1⟩ := p
   rw [hop] at hst
   refine ⟨fun _ _ => trivial, ?_⟩
   rw [Oper.semAt_eq _ _ _ hnd]
   refine uponR_ok hc (opA_ok F o (fun x _ v hv => eval_ok (fun t _ => ha.tmps t) v hv) hop) hst (fun a' h' e' m' w' v v' he F' hv ea => ?_) (fun v h' e' m' w' v' he F' hv => ?_)
   ·subst e' ea
    exact hgo _ _ rfl m' _ w' he ((ha.mono he.le).put1 hd' hv) F'
   ·subst e'
    exact hpn _ _ rfl m' w' v' he F' hv
 ·rename_i hw
  rw [wanted_ok (fun t _ => ha.tmps t) hw]
  simp only [Bool.false_eq_true, if_false]
  simp only [stepPut, Option.some.injEq] at hst
  subst hst
  refine ⟨fun _ _ => trivial, hgo _ _ rfl m _ w (Ext.refl m) (ha.put1 hd' (.tup .nil)) F⟩
 ·cases hst
theorem WR.region {c : Code} (hc : Code.kind c = 7) (hk : WLR P w0 m0 N rd n (Code.ops c) 0 Q l ds h) : WR P w0 m0 N rd n c Q l ds h := by
 cases c with
 | region id ops d => cases d with
  | false => exact fun m act w he ha F => wpIn_region_list (hk m act w he ha F)
  | true => simp [Code.kind] at hc
 | _ => simp [Code.kind] at hc
theorem WLR.nil {ops : Array Oper} {i : Nat} (hi : Nat.beq ops.size i = true) (hk : Go w0 m0 N (Q .normal) l ds h) : WLR P w0 m0 N rd n ops i Q l ds h := by
 intro m act w he ha F
 have : ops.toList.drop i = [] := by
  have := Nat.eq_of_beq_eq_true hi
  simp [← this]
 rw [this]
 exact hk m act w he ha F
theorem WLR.step {ops : Array Oper} {i : Nat} {o : Oper} (ho : ops[i]? = some o) (hd : okDst N o = true) (hnd : ∀ c, o.op ≠ .defer c) (hc : BothOK P w0 both) {d : Option Nat} {v : AV} {ds' : DefT}
  (hst : stepR P both ops o ⟨l.tree, ds⟩ h = some (.go ⟨(l.put d v).tree, ds'⟩ h')) (hk : WLR P w0 m0 N rd n ops (i + 1) Q (l.put d v) ds' h') : WLR P w0 m0 N rd n ops i Q l ds h := by
 intro m act w he ha F
 have hl : i < ops.toList.length := by
  rcases Array.getElem?_eq_some_iff.1 ho with ⟨h1, _⟩
  simpa using h1
 have hdrop : ops.toList.drop i = o :: ops.toList.drop (i + 1) := by
  rw [List.drop_eq_getElem_cons hl]
  congr 1
  rcases Array.getElem?_eq_some_iff.1 ho with ⟨h1, h2⟩
  simpa using h2
 rw [hdrop]
 refine stepR_ok1 hc ha F hd hnd hst (fun a' h2 e m' act' w' he' ha' F' => ?_) (fun v h2 e => by cases e)
 simp only [AStep.go.injEq] at e
 obtain ⟨rfl, rfl⟩ := e
 exact hk m' act' w' (he.trans he') ha' F'
theorem WLR.val {ops : Array Oper} {i : Nat} {d : Option Nat} {v : AV} (hd : dstR N ops i = some d) (hw : wantAt ops l.get i = some true) (hop : opAt P l.eval ops i h = some (.val v, h'))
  (hk : WLR P w0 m0 N rd n ops (i + 1) Q (l.put d v) ds h') : WLR P w0 m0 N rd n ops i Q l ds h := by
 obtain ⟨o, ho, hok, hnd, rfl⟩ := dstR_ok hd
 refine WLR.step (v := v) (d := o.dst) (ds' := ds) ho hok hnd noneBoth_ok ?_ hk
 have hw : wantedT ops l.get o.guard = some true := by simpa [wantAt, ho] using hw
 have hop : opA P l.eval o h = some (.val v, h') := by simpa [opAt, ho] using hop
 simp only [stepR, Fr.fget_tree, hw, Fr.eval_tree, hop, stepOutR, stepPut, Fr.put_tree]
theorem WLR.eff {ops : Array Oper} {i : Nat} (hd : dstR N ops i = some none) (hw : wantAt ops l.get i = some true) (hop : opAt P l.eval ops i h = some (.skip, h'))
  (hk : WLR P w0 m0 N rd n ops (i + 1) Q l ds h') : WLR P w0 m0 N rd n ops i Q l ds h := by
 obtain ⟨o, ho, hok, hnd, hdn⟩ := dstR_ok hd
 refine WLR.step (v := .tup []) (d := none) (ds' := ds) ho hok hnd noneBoth_ok ?_ hk
 have hw : wantedT ops l.get o.guard = some true := by simpa [wantAt, ho] using hw
 have hop : opA P l.eval o h = some (.skip, h') := by simpa [opAt, ho] using hop
 simp only [stepR, Fr.fget_tree, hw, Fr.eval_tree, hop, stepOutR, stepPut, Fr.put_tree, hdn]
theorem WLR.not {ops : Array Oper} {i : Nat} {d : Option Nat} (hd : dstR N ops i = some d) (hw : wantAt ops l.get i = some false)
  (hk : WLR P w0 m0 N rd n ops (i + 1) Q (l.put d (.tup [])) ds h) : WLR P w0 m0 N rd n ops i Q l ds h := by
 obtain ⟨o, ho, hok, hnd, rfl⟩ := dstR_ok hd
 refine WLR.step (v := .tup []) (d := o.dst) (ds' := ds) ho hok hnd noneBoth_ok ?_ hk
 have hw : wantedT ops l.get o.guard = some false := by simpa [wantAt, ho] using hw
 simp only [stepR, Fr.fget_tree, hw, stepPut, Fr.put_tree]
theorem WLR.callB (hc : BothOK P w0 both) {ops : Array Oper} {i : Nat} {d : Option Nat} {f : FuncId} {args : List AV} {v : AV} {h1 : AHeap} (hd : dstR N ops i = some d) (hw : wantAt ops l.get i = some true) (hop : opAt P l.eval ops i h = some (.call f args, h1))
  (hcall : both false f args h1 = some (.ret v, h')) (hk : WLR P w0 m0 N rd n ops (i + 1) Q (l.put d v) ds h') : WLR P w0 m0 N rd n ops i Q l ds h := by
 obtain ⟨o, ho, hok, hnd, rfl⟩ := dstR_ok hd
 refine WLR.step (v := v) (d := o.dst) (ds' := ds) ho hok hnd hc ?_ hk
 have hw : wantedT ops l.get o.guard = some true := by simpa [wantAt, ho] using hw
 have hop : opA P l.eval o h = some (.call f args, h1) := by simpa [opAt, ho] using hop
 simp only [stepR, Fr.fget_tree, hw, Fr.eval_tree, hop, stepOutR, hcall, stepRes, stepPut, Fr.put_tree]
def noRnd : Nat → List AV → AHeap → Option (ARes × AHeap) := fun _ _ _ => none
def mkBoth (call : CallF) (rnd : Nat → List AV → AHeap → Option (ARes × AHeap)) : BothF := fun k f args h => match k with
 | false => call f args h
 | true => rnd f args h
theorem both_of_call {call : CallF} (hc : CallOK P w0 call) : BothOK P w0 (mkBoth call noRnd) := ⟨hc, (fun _ _ _ _ _ h => nomatch h)⟩
theorem WLR.call {call : CallF} (hc : CallOK P w0 call) {ops : Array Oper} {i : Nat} {d : Option Nat} {f : FuncId} {args : List AV} {v : AV} {h1 : AHeap} (hd : dstR N ops i = some d) (hw : wantAt ops l.get i = some true) (hop : opAt P l.eval ops i h = some (.call f args, h1))
  (hcall : call f args h1 = some (.ret v, h')) (hk : WLR P w0 m0 N rd n ops (i + 1) Q (l.put d v) ds h') : WLR P w0 m0 N rd n ops i Q l ds h := WLR.callB (both_of_call hc) hd hw hop hcall hk
theorem WLR.round (hc : BothOK P w0 both) {ops : Array Oper} {i : Nat} {d : Option Nat} {b : Nat} {args : List AV} {v : AV} {h1 : AHeap} (hd : dstR N ops i = some d) (hw : wantAt ops l.get i = some true) (hop : opAt P l.eval ops i h = some (.round b args, h1))
  (hcall : both true b args h1 = some (.ret v, h')) (hk : WLR P w0 m0 N rd n ops (i + 1) Q (l.put d v) ds h') : WLR P w0 m0 N rd n ops i Q l ds h := by
 obtain ⟨o, ho, hok, hnd, rfl⟩ := dstR_ok hd
 refine WLR.step (v := v) (d := o.dst) (ds' := ds) ho hok hnd hc ?_ hk
 have hw : wantedT ops l.get o.guard = some true := by simpa [wantAt, ho] using hw
 have hop : opA P l.eval o h = some (.round b args, h1) := by simpa [opAt, ho] using hop
 simp only [stepR, Fr.fget_tree, hw, Fr.eval_tree, hop, stepOutR, hcall, stepRes, stepPut, Fr.put_tree]
theorem WR.draw (hm : P.follows .mixedOrders = true) {call : CallF} (hc : CallOK P w0 call) {c : Code} {plan : List Nat} (hk : Code.kind c = 8) (hok : (okOps N (Code.ops c).toList && noDefer (Code.ops c)) = true) (hp : planOf P (Code.ops c) = some plan)
  (hd : WD P w0 m0 N call (Code.ops c) plan [] (Q .normal) l ds h) : WR P w0 m0 N rd n c Q l ds h := by
 rw [Bool.and_eq_true] at hok
 cases c with
 | region id ops d => cases d with
  | true =>
   intro m act w he ha F
   obtain ⟨l', h', hgo, hq⟩ := hd
   have hdraw : aDraw P call ops ⟨l.tree, ds⟩ h = some (.normal, ⟨l'.tree, ds⟩, h') := by
    unfold aDraw
    have hp : planOf P ops = some plan := hp
    rw [hp]
    exact hgo
   refine wpIn_mono (wpIn_region_any hm (anyIn_of hok.2 post_keeps _ _ _ _ (draw_any hc (okOps_mem _ hok.1) ha F hdraw))) ?_
   rintro e' act2 w2 ⟨m2, hx, ha2, F2, hex⟩
   cases hex
   exact hq m2 act2 w2 (he.trans hx) ha2 F2
  | false => simp [Code.kind] at hk
 | _ => simp [Code.kind] at hk
theorem WR.range (hc : BothOK P w0 both) {f : Operand} {ps : Array Tmp} {x y : Code} {e : AExit} {l' : Fr} {ds' : DefT} (hr : rangeR P both none N (l.eval f) ps x y ⟨l.tree, ds⟩ h = some (e, ⟨l'.tree, ds'⟩, h'))
  (hq : ∀ (m : Map) (act : Act) (w : World) (e' : Exit), Ext m0 m → RelExit m e e' → RelAct m N ⟨l'.tree, ds'⟩ act → Fits w0 m h' w → Q e' act w) : WR P w0 m0 N none n (.rangeFunc f ps x y) Q l ds h := by
 intro m act w he ha F
 have hev : (⟨l.tree, ds⟩ : AAct).eval f = l.eval f := by rw [Fr.eval_tree]
 refine wpIn_mono (rangeR_ok (rb := none) (f := f) hc ⟨l.tree, ds⟩ h e _ h' (by
  show rangeR P both none N ((⟨l.tree, ds⟩ : AAct).eval f) ps x y ⟨l.tree, ds⟩ h = _
  rw [hev]
  exact hr) none n m act w trivial ha F) ?_
 rintro e' act2 w2 ⟨m2, hx, ha2, F2, hex⟩
 exact hq m2 act2 w2 e' (he.trans hx) hex ha2 F2
end
section
variable {P : Program} {m : Map} {w0 : Base} {w : World} {H H' : AHeap} {both : BothF} {rd rb : Option Nat} {N lf : Nat}
end
def BothAll (P : Program) (both : BothF) : Prop := ∀ w0, BothOK P w0 both
theorem BothAll.says {P : Program} {both : BothF} (h : BothAll P both) : SaysAll P (both false) := SaysAll.of fun w0 => (h w0).call
theorem BothAll.none {P : Program} : BothAll P noneBoth := fun _ => noneBoth_ok
theorem mkBoth_ok {P : Program} {call : CallF} {rnd : Nat → List AV → AHeap → Option (ARes × AHeap)} (hc : SaysAll P call) (hr : ∀ w0, RoundOK P w0 rnd) : BothAll P (mkBoth call rnd) := fun w0 => ⟨hc.ok w0, hr w0⟩
def worldB (cf : BothF → CallF) (rf : BothF → Nat → List AV → AHeap → Option (ARes × AHeap)) : Nat → BothF
 | 0 => noneBoth
 | d + 1 => mkBoth (cf (worldB cf rf d)) (rf (worldB cf rf d))
theorem worldB_ok {P : Program} {cf : BothF → CallF} {rf : BothF → Nat → List AV → AHeap → Option (ARes × AHeap)} (hc : ∀ both, BothAll P both → SaysAll P (cf both)) (hr : ∀ both, BothAll P both → ∀ w0, RoundOK P w0 (rf both)) : ∀ d, BothAll P (worldB cf rf d)
 | 0 => BothAll.none
 | d + 1 => mkBoth_ok (hc _ (worldB_ok hc hr d)) (hr _ (worldB_ok hc hr d))
section
variable {P : Program} {w0 : Base} {m0 : Map} {N : Nat} {rd : Option Nat} {n : Nat} {l l' : Fr} {ds : DefT} {h h' : AHeap} {Q : Exit → Act → World → Prop} {K : Act → World → Prop} {both : BothF} {r : ARes}
abbrev FinM (P : Program) (fn : Func) (w0 : Base) (m0 : Map) (r : ARes) (h' : AHeap) : Exit → Act → World → Prop := bodyPostM Fence.wide 0 P fn (RetOK w0 m0 h' r)
theorem Go.leaveM {fn : Func} (hr : marksR P fn ⟨l.tree, ds⟩ ds h = some (r, h')) : Go w0 m0 N (FinM P fn w0 m0 r h' .ret) l ds h := fun m _ w he ha F =>
 LeavesInM.mono (fun _ _ hh => hh.ext he) _ _ _ (marksR_all _ _ hr m _ ha.defers) (marksR_ok _ h hr m _ w ha.tmps ha.defers F)
theorem says_ofM {f : FuncId} {fn : Func} {args : List AV} (hf : P.funcs[f]? = some fn) {c : Code} (hb : fn.body = some c) (hlen : Nat.ble args.length fn.ntmps = true)
  (hw : ∀ w0 m0, WR P w0 m0 fn.ntmps none 0 c (FinM P fn w0 m0 r h') (argsFr 0 args) [] h) : Says P f args h r h' := by
 intro w0 m w args' ha F
 have hlen := Nat.le_of_ble_eq_true hlen
 have hl := ha.length
 have hra : RelAct m fn.ntmps ⟨(argsFr 0 args).tree, []⟩ { tmps := (⟨args'⟩ : Array Value) ++ Array.replicate (fn.ntmps - (⟨args'⟩ : Array Value).size) undef, defers := [] } := {
  size := by simp; omega
  tmps := fun t v hv => by
   have hv : (argsFr 0 args).tree.get t = some v := hv
   rw [Fr.get_tree] at hv
   obtain ⟨_, hv⟩ := argsFr_get _ _ _ _ hv
   rw [Nat.sub_zero] at hv
   obtain ⟨y, hy, hr⟩ := ha.get t v hv
   have ht : t < args'.length := (List.getElem?_eq_some_iff.1 hy).1
   refine ⟨y, ?_, hr⟩
   simp only
   rw [Array.getElem?_append_left (by simpa using ht)]
   simpa using hy
  defers := .nil }
 exact callsIn_wide.1 (callsIn_of_wp_marks (n := 0) hf hb trivial (hw w0 m m _ w (Ext.refl m) hra F))
theorem RelAct.ofTree {m : Map} {act : Act} {t : T AV} (hs : ∀ i v, l.get i = some v → t.get i = some v) (hr : RelAct m N ⟨t, ds⟩ act) : RelAct m N ⟨l.tree, ds⟩ act where
 size := hr.size
 tmps i := fun v hv => hr.tmps i v (by
  have hv : l.tree.get i = some v := hv
  rw [Fr.get_tree] at hv
  exact hs i v hv)
 defers := hr.defers
theorem codeROK_of {c : Code} {f : AAct → AHeap → CodeT} (hf : ∀ (t : T AV) (ds : DefT) (h : AHeap) (e : AExit) (a' : AAct) (h' : AHeap), f ⟨t, ds⟩ h = some (e, a', h') → ∃ l : Fr, (∀ i v, l.get i = some v → t.get i = some v) ∧ ∀ rd n m0, WR P w0 m0 N rd n c (fun e' act w => Post w0 m0 N e a' h' e' act w) l ds h) (rb : Option Nat) : CodeROK P w0 N rb f c := by
 intro a h e a' h' hr rd n m act w hrb ha F
 obtain ⟨l, hl, hk⟩ := hf a.tmps a.defers h e a' h' hr
 exact hk rd n m m act w (Ext.refl m) (RelAct.ofTree hl ha) F
end
end
end Go.Proofs.Ytpnccmlajhhpdaa.Abs
namespace Go.Proofs.Ytpnccmlajhhpdaa.Abs
noncomputable section
open Go.RowKit
section
variable {P : Program} {w0 : Base} {m0 : Map} {N : Nat} {rd : Option Nat} {nR : Nat} {l l' : Fr} {ds : DefT} {h h' : AHeap} {Q : Exit → Act → World → Prop} {K : Act → World → Prop} {Y : OutT} {ops : Array Oper} {i : Nat}
theorem WR.seqK {c : Code} (hc : Code.kind c = 1) (hk : ∀ K : Exit → Act → World → Prop, (∀ {ds : DefT} {l : Fr} {h : AHeap}, WR P w0 m0 N rd nR (Code.p2 c) Q l ds h → Go w0 m0 N (K .normal) l ds h) →
  (∀ {id : Nat} {ds : DefT} {l : Fr} {h : AHeap}, Go w0 m0 N (Q (.exit id)) l ds h → Go w0 m0 N (K (.exit id)) l ds h) → (∀ {ds : DefT} {l : Fr} {h : AHeap}, Go w0 m0 N (Q .ret) l ds h → Go w0 m0 N (K .ret) l ds h) →
  (∀ {ds : DefT} {l : Fr} {v : AV} {h : AHeap}, Pan w0 m0 N Q l ds v h → Pan w0 m0 N K l ds v h) → WR P w0 m0 N rd nR (Code.p1 c) K l ds h) : WR P w0 m0 N rd nR c Q l ds h :=
 WR.seq hc (hk _ (fun h => h) (fun h => h) (fun h => h) (fun h => h))
theorem WR.blockK {c : Code} (hc : Code.kind c = 3) (hk : ∀ K : Exit → Act → World → Prop, (∀ {ds : DefT} {l : Fr} {h : AHeap}, Go w0 m0 N (Q .normal) l ds h → Go w0 m0 N (K .normal) l ds h) →
  (∀ {id : Nat} {ds : DefT} {l : Fr} {h : AHeap}, Nat.beq id (Code.num c) = true → Go w0 m0 N (Q .normal) l ds h → Go w0 m0 N (K (.exit id)) l ds h) →
  (∀ {id : Nat} {ds : DefT} {l : Fr} {h : AHeap}, Nat.beq id (Code.num c) = false → Go w0 m0 N (Q (.exit id)) l ds h → Go w0 m0 N (K (.exit id)) l ds h) → (∀ {ds : DefT} {l : Fr} {h : AHeap}, Go w0 m0 N (Q .ret) l ds h → Go w0 m0 N (K .ret) l ds h) →
  (∀ {ds : DefT} {l : Fr} {v : AV} {h : AHeap}, Pan w0 m0 N Q l ds v h → Pan w0 m0 N K l ds v h) → WR P w0 m0 N rd nR (Code.p1 c) K l ds h) : WR P w0 m0 N rd nR c Q l ds h :=
 WR.block hc (hk _ (fun h => h) (fun e h => Go.bS e h) (fun e h => Go.bO e h) (fun h => h) (fun h => h))
theorem WR.loopK {c : Code} (hc : Code.kind c = 4) (hk : ∀ (I : Act → World → Prop) (K : Exit → Act → World → Prop), (∀ {ds : DefT} {l : Fr} {h : AHeap}, WR P w0 m0 N rd nR (Code.p1 c) K l ds h → Go w0 m0 N I l ds h) →
  (∀ {ds : DefT} {l : Fr} {h : AHeap}, Go w0 m0 N I l ds h → Go w0 m0 N (K .normal) l ds h) → (∀ {id : Nat} {ds : DefT} {l : Fr} {h : AHeap}, Go w0 m0 N (Q (.exit id)) l ds h → Go w0 m0 N (K (.exit id)) l ds h) →
  (∀ {ds : DefT} {l : Fr} {h : AHeap}, Go w0 m0 N (Q .ret) l ds h → Go w0 m0 N (K .ret) l ds h) → (∀ {ds : DefT} {l : Fr} {v : AV} {h : AHeap}, Pan w0 m0 N Q l ds v h → Pan w0 m0 N K l ds v h) →
  Go w0 m0 N I l ds h) : WR P w0 m0 N rd nR c Q l ds h :=
 WR.loop hc (hk _ _ (fun h => Go.roundR h) (fun h => h) (fun h => h) (fun h => h) (fun h => h))
end
section
variable {P : Program} {w0 : Base} {m0 : Map} {N : Nat} {rd : Option Nat} {nR : Nat} {l l' : Fr} {ds : DefT} {h : AHeap} {Q : Exit → Act → World → Prop} {K : Act → World → Prop} {Y : OutT} {ops : Array Oper} {i : Nat}
theorem WLR.a (d : Option Nat) (v : AV) (h' : AHeap) (hk : WLR P w0 m0 N rd nR ops (i + 1) Q (l.put d v) ds h') (h1 : dstR N ops i = some d := by kernel_rfl) (h2 : wantAt ops l.get i = some true := by kernel_rfl) (h3 : opAt P l.eval ops i h = some (.val v, h') := by kernel_rfl) : WLR P w0 m0 N rd nR ops i Q l ds h := WLR.val h1 h2 h3 hk
theorem WLR.b (d : Option Nat) (v : AV) (h' : AHeap) (x : Y = some (.val v, h')) (hk : WLR P w0 m0 N rd nR ops (i + 1) Q (l.put d v) ds h') (h1 : dstR N ops i = some d := by kernel_rfl) (h2 : wantAt ops l.get i = some true := by kernel_rfl) (h3 : opAt P l.eval ops i h = Y := by kernel_rfl) : WLR P w0 m0 N rd nR ops i Q l ds h := WLR.val h1 h2 (h3.trans x) hk
theorem WLR.e (h' : AHeap) (x : Y = some (.skip, h')) (hk : WLR P w0 m0 N rd nR ops (i + 1) Q l ds h') (h1 : dstR N ops i = some none := by kernel_rfl) (h2 : wantAt ops l.get i = some true := by kernel_rfl) (h3 : opAt P l.eval ops i h = Y := by kernel_rfl) : WLR P w0 m0 N rd nR ops i Q l ds h := WLR.eff h1 h2 (h3.trans x) hk
theorem WLR.o (d : Option Nat) (hk : WLR P w0 m0 N rd nR ops (i + 1) Q (l.put d (.tup [])) ds h) (h1 : dstR N ops i = some d := by kernel_rfl) (h2 : wantAt ops l.get i = some false := by kernel_rfl) : WLR P w0 m0 N rd nR ops i Q l ds h := WLR.not h1 h2 hk
theorem WLR.c {call : CallF} (hc : CallOK P w0 call) (d : Option Nat) {f : FuncId} {args : List AV} {v : AV} {h1 h' : AHeap} (hcall : call f args h1 = some (.ret v, h')) (hk : WLR P w0 m0 N rd nR ops (i + 1) Q (l.put d v) ds h') (h2 : dstR N ops i = some d := by kernel_rfl) (h3 : wantAt ops l.get i = some true := by kernel_rfl) (h4 : opAt P l.eval ops i h = some (.call f args, h1) := by kernel_rfl) : WLR P w0 m0 N rd nR ops i Q l ds h := WLR.call hc h2 h3 h4 hcall hk
theorem WLR.n (hk : Go w0 m0 N (Q .normal) l ds h) (hi : Nat.beq ops.size i = true := by kernel_rfl) : WLR P w0 m0 N rd nR ops i Q l ds h := WLR.nil hi hk
theorem WR.r {c : Code} (hk : WLR P w0 m0 N rd nR (Code.ops c) 0 Q l ds h) (hc : Code.kind c = 7 := by kernel_rfl) : WR P w0 m0 N rd nR c Q l ds h := WR.region hc hk
theorem WR.s {c : Code} (hk : ∀ K : Exit → Act → World → Prop, (∀ {ds : DefT} {l : Fr} {h : AHeap}, WR P w0 m0 N rd nR (Code.p2 c) Q l ds h → Go w0 m0 N (K .normal) l ds h) →
  (∀ {id : Nat} {ds : DefT} {l : Fr} {h : AHeap}, Go w0 m0 N (Q (.exit id)) l ds h → Go w0 m0 N (K (.exit id)) l ds h) → (∀ {ds : DefT} {l : Fr} {h : AHeap}, Go w0 m0 N (Q .ret) l ds h → Go w0 m0 N (K .ret) l ds h) →
  (∀ {ds : DefT} {l : Fr} {v : AV} {h : AHeap}, Pan w0 m0 N Q l ds v h → Pan w0 m0 N K l ds v h) → WR P w0 m0 N rd nR (Code.p1 c) K l ds h) (hc : Code.kind c = 1 := by kernel_rfl) : WR P w0 m0 N rd nR c Q l ds h := WR.seqK hc hk
theorem WR.t {c : Code} (hk : WR P w0 m0 N rd nR (Code.p1 c) Q l ds h) (hc : Code.kind c = 2 := by kernel_rfl) (hv : l.eval (Code.opd c) = some (.bool true) := by kernel_rfl) : WR P w0 m0 N rd nR c Q l ds h := WR.cond_true hc hv hk
theorem WR.f {c : Code} (hk : WR P w0 m0 N rd nR (Code.p2 c) Q l ds h) (hc : Code.kind c = 2 := by kernel_rfl) (hv : l.eval (Code.opd c) = some (.bool false) := by kernel_rfl) : WR P w0 m0 N rd nR c Q l ds h := WR.cond_false hc hv hk
end
section
variable {P : Program} {w0 : Base} {m0 : Map} {N : Nat} {rd : Option Nat} {nR : Nat} {l l' : Fr} {ds : DefT} {h : AHeap} {Q : Exit → Act → World → Prop} {K : Act → World → Prop} {Y : OutT} {ops : Array Oper} {i : Nat} {r : ARes × AHeap} {call : CallF}
end
end
end Go.Proofs.Ytpnccmlajhhpdaa.Abs
namespace Go.Proofs.Ytpnccmlajhhpdaa.Abs
noncomputable section
open Go.RowKit
def isRng : Code → Bool
 | .rangeFunc _ _ _ _ => true
 | _ => false
def Code.rgo : Code → Operand
 | .rangeFunc f _ _ _ => f
 | _ => .tmp 0
def Code.rgp : Code → Array Tmp
 | .rangeFunc _ ps _ _ => ps
 | _ => #[]
def Code.r1 : Code → Code
 | .rangeFunc _ _ x _ => x
 | _ => .skip
def Code.r2 : Code → Code
 | .rangeFunc _ _ _ y => y
 | _ => .skip
abbrev dmark (D : Nat) : FuncId × List AV × List AV := (0, [], [.mrk D])
def rngX (P : Program) (both : BothF) (N : Nat) (v : AV) (c : Code) (t : T AV) (ds : DefT) (h : AHeap) : CodeT := rangeR P both none N (some v) (Code.rgp c) (Code.r1 c) (Code.r2 c) ⟨t, ds⟩ h
def rngK (x : CodeT) (kn kr : AHeap → R) (ke : Nat → AHeap → R) : R := match x with
 | some (.normal, _, h) => kn h
 | some (.ret, _, h) => kr h
 | some (.exit id, _, h) => ke id h
 | _ => none
theorem rng_frame {P : Program} {both : BothF} {N : Nat} {f : Option AV} {ps : Array Tmp} {x y : Code} {t : T AV} {ds : DefT} {h h' : AHeap} {e : AExit} {a' : AAct} (hr : rangeR P both none N f ps x y ⟨t, ds⟩ h = some (e, a', h')) : a' = ⟨t, dmark h.next :: ds⟩ := by
 unfold rangeR at hr
 split at hr
 ·split at hr
  ·simp only [enterR] at hr
   unfold endR at hr
   split at hr
   ·split at hr
    ·split at hr
     ·cases hr
     ·split at hr <;> · simp only [Option.some.injEq, Prod.mk.injEq] at hr; exact hr.2.1.symm
    ·cases hr
   ·cases hr
  ·cases hr
 ·cases hr
section
variable {P : Program} {w0 : Base} {m0 : Map} {N : Nat} {n : Nat} {l l' : Fr} {ds : DefT} {h : AHeap} {Q : Exit → Act → World → Prop} {both : BothF} {r : ARes × AHeap} {kn kr : AHeap → R} {ke : Nat → AHeap → R} {v : AV}
theorem WR.rng (hc : BothAll P both) {c : Code} (z : rngK (rngX P both N v c l.tree ds h) kn kr ke = some r)
  (hn : ∀ h', kn h' = some r → Go w0 m0 N (Q .normal) l (dmark h.next :: ds) h') (hr : ∀ h', kr h' = some r → Go w0 m0 N (Q .ret) l (dmark h.next :: ds) h')
  (he : ∀ id h', ke id h' = some r → Go w0 m0 N (Q (.exit id)) l (dmark h.next :: ds) h') (hk : isRng c = true := by kernel_rfl) (hv : l.eval (Code.rgo c) = some v := by kernel_rfl) : WR P w0 m0 N none n c Q l ds h := by
 cases c with
 | rangeFunc f ps x y =>
  have hv : l.eval f = some v := hv
  unfold rngK rngX at z
  have hx : rangeR P both none N (some v) (Code.rgp (.rangeFunc f ps x y)) (Code.r1 (.rangeFunc f ps x y)) (Code.r2 (.rangeFunc f ps x y)) ⟨l.tree, ds⟩ h = rangeR P both none N (l.eval f) ps x y ⟨l.tree, ds⟩ h := by rw [hv]; rfl
  rw [hx] at z
  cases hr2 : rangeR P both none N (l.eval f) ps x y ⟨l.tree, ds⟩ h with
  | none => rw [hr2] at z; cases z
  | some p =>
   obtain ⟨e, a', h'⟩ := p
   have ha := rng_frame hr2
   subst ha
   rw [hr2] at z
   refine WR.range (l' := l) (hc w0) hr2 fun m act w e' hx hex ha F => ?_
   cases hex with
   | normal => exact hn h' z m act w hx ha F
   | ret => exact hr h' z m act w hx ha F
   | exit id => exact he id h' z m act w hx ha F
   | goto l => cases z
   | panic hv => cases z
 | _ => cases hk
def marksH : DefT → AHeap → Option AHeap
 | [], h => some h
 | (0, [], [.mrk D]) :: ds, h => match h.get D with
  | some (.obj .dfr) => marksH ds (h.put D (.obj .shut))
  | _ => none
 | _, _ => none
def marksK (ds : DefT) (h : AHeap) (k : AHeap → R) : R := match marksH ds h with
 | some h' => k h'
 | none => none
theorem marksR_H {fn : Func} {a : AAct} : ∀ (ds : DefT) (h h' : AHeap), marksH ds h = some h' → marksR P fn a ds h = retA h' (resAll P a h' fn.results.toList)
 | [], h, h', e => by
  simp only [marksH, Option.some.injEq] at e
  subst e
  rfl
 | d :: ds, h, h', e => by
  unfold marksH at e
  split at e
  ·rename_i e'
   cases e'
  ·rename_i D ds2 _ e'
   simp only [List.cons.injEq] at e'
   obtain ⟨rfl, rfl⟩ := e'
   split at e
   ·rename_i hb
    have ih := marksR_H (fn := fn) (a := a) _ _ _ e
    simp only [marksR, hb]
    exact ih
   ·cases e
  ·cases e
theorem Go.leaveK {fn : Func} {rR : ARes} {hR : AHeap} {k : AHeap → R} (z : marksK ds h k = some (rR, hR)) (hk : ∀ h', k h' = some (rR, hR) → retA h' (resGs P l.get h' fn.results.toList) = some (rR, hR)) : Go w0 m0 N (FinM P fn w0 m0 rR hR .ret) l ds h := by
 unfold marksK at z
 split at z
 ·rename_i h' hm
  refine Go.leaveM ?_
  rw [marksR_H _ _ _ hm]
  have := hk h' z
  rw [← resGs_eq]
  show retA h' (resGs P l.tree.get h' _) = _
  rw [Fr.fget_tree]
  exact this
 ·cases z
end
theorem ret_of {P : Program} {g : Nat → Option AV} {h : AHeap} {fn : Func} {rs : List ResultVar} {vs : List AV} {v : AV} (hrs : fn.results.toList = rs) (hv : resGs P g h rs = some vs) (hr : retA h (some vs) = some (.ret v, h)) : retA h (resGs P g h fn.results.toList) = some (.ret v, h) := by
 rw [hrs, hv]
 exact hr
def dynB (P : Program) (both : BothF) (f : AV) (args : List AV) (h : AHeap) : R := match callV P h args (some f) with
 | some (.call g xs, h1) => both false g xs h1
 | some (.round b xs, h1) => both true b xs h1
 | some (.val v, h1) => some (.ret v, h1)
 | _ => none
section
variable {P : Program} {w0 : Base} {m0 : Map} {N : Nat} {rd : Option Nat} {n : Nat} {l : Fr} {ds : DefT} {h h' : AHeap} {Q : Exit → Act → World → Prop} {both : BothF}
theorem WLR.dyn (hc : BothAll P both) {ops : Array Oper} {i : Nat} {d : Option Nat} {f v : AV} {args : List AV} (hcall : dynB P both f args h = some (.ret v, h')) (hk : WLR P w0 m0 N rd n ops (i + 1) Q (l.put d v) ds h') (hd : dstR N ops i = some d := by kernel_rfl) (hw : wantAt ops l.get i = some true := by kernel_rfl)
  (hop : opAt P l.eval ops i h = callV P h args (some f) := by kernel_rfl) : WLR P w0 m0 N rd n ops i Q l ds h := by
 unfold dynB at hcall
 split at hcall
 ·rename_i g xs h1 e
  exact WLR.callB (hc w0) hd hw (hop.trans e) hcall hk
 ·rename_i b xs h1 e
  exact WLR.round (hc w0) hd hw (hop.trans e) hcall hk
 ·rename_i v1 h1 e
  cases hcall
  exact WLR.val hd hw (hop.trans e) hk
 ·cases hcall
end
def decE : ARes → AExit
 | .ret (.int _ z) => match z with
  | 0 => .normal
  | 1 => .ret
  | z => .exit (z - 2).toNat
 | _ => .normal
def tupFr (ts : List Nat) : ARes → Fr
 | .ret (.tup vs) => ts.zip vs
 | _ => []
section
variable {P : Program} {w0 : Base} {m0 : Map} {N : Nat} {l l' : Fr} {ds : DefT} {h : AHeap}
theorem Go.postN (hs : l.sub l') : Go w0 m0 N (Post w0 m0 N .normal ⟨l'.tree, ds⟩ h .normal) l ds h := fun m _ _ he ha F => ⟨m, he, ha.weaken hs, F, .normal⟩
end
section
variable {P : Program} {both : BothF} {N : Nat} {c : Code} {t : T AV} {ds : DefT} {h h2 : AHeap} {kn kr : AHeap → R} {ke : Nat → AHeap → R} {Q : ARes → AHeap → Prop} {g : FuncId} {first cap : List AV} {v : AV} {q : ALoop}
def rngH (N : Nat) (c : Code) (t : T AV) (h : AHeap) : AHeap := (h.new (.obj .dfr)).new (.obj (.loop ⟨.ready, .none, t, N, Code.rgp c, Code.r1 c, Code.r2 c, h.next⟩))
theorem rngX_of (hb : hasBody P g = true) (e : both false g (first ++ [.yld (h.next + 1)] ++ cap) (rngH N c t h) = some (.ret v, h2)) (hq : h2.get (h.next + 1) = some (.obj (.loop q))) (hs : q.st ≠ .busy) :
  rngX P both N (.fn g first cap) c t ds h = (match q.pend with
   | .none => some (.normal, ⟨t, dmark h.next :: ds⟩, h2.put (h.next + 1) (.obj (.loop { q with st := .exhausted })))
   | .ret => some (.ret, ⟨t, dmark h.next :: ds⟩, h2.put (h.next + 1) (.obj (.loop { q with st := .exhausted })))
   | .exit id => some (.exit id, ⟨t, dmark h.next :: ds⟩, h2.put (h.next + 1) (.obj (.loop { q with st := .exhausted })))) := by
 unfold rngX rangeR
 simp only [hb, enterR]
 unfold rngH at e
 rw [e]
 unfold endR
 simp only [hq]
 cases hst : q.st with
 | busy => exact absurd hst hs
 | _ => rfl
theorem Wp.rngN (hb : hasBody P g = true) (e : both false g (first ++ [.yld (h.next + 1)] ++ cap) (rngH N c t h) = some (.ret v, h2)) (hq : h2.get (h.next + 1) = some (.obj (.loop q))) (hs : q.st ≠ .busy) (hp : q.pend = .none) (hk : Wp (kn (h2.put (h.next + 1) (.obj (.loop { q with st := .exhausted })))) Q) : Wp (rngK (rngX P both N (.fn g first cap) c t ds h) kn kr ke) Q := by
 rw [rngX_of hb e hq hs]
 rw [hp] at hk ⊢
 exact hk
theorem Wp.rngR (hb : hasBody P g = true) (e : both false g (first ++ [.yld (h.next + 1)] ++ cap) (rngH N c t h) = some (.ret v, h2)) (hq : h2.get (h.next + 1) = some (.obj (.loop q))) (hs : q.st ≠ .busy) (hp : q.pend = .ret) (hk : Wp (kr (h2.put (h.next + 1) (.obj (.loop { q with st := .exhausted })))) Q) : Wp (rngK (rngX P both N (.fn g first cap) c t ds h) kn kr ke) Q := by
 rw [rngX_of hb e hq hs]
 rw [hp] at hk ⊢
 exact hk
theorem Wp.rngE {id : Nat} (hb : hasBody P g = true) (e : both false g (first ++ [.yld (h.next + 1)] ++ cap) (rngH N c t h) = some (.ret v, h2)) (hq : h2.get (h.next + 1) = some (.obj (.loop q))) (hs : q.st ≠ .busy) (hp : q.pend = .exit id) (hk : Wp (ke id (h2.put (h.next + 1) (.obj (.loop { q with st := .exhausted })))) Q) : Wp (rngK (rngX P both N (.fn g first cap) c t ds h) kn kr ke) Q := by
 rw [rngX_of hb e hq hs]
 rw [hp] at hk ⊢
 exact hk
end
end
end Go.Proofs.Ytpnccmlajhhpdaa.Abs
namespace Go.Proofs.Ytpnccmlajhhpdaa.Abs
noncomputable section
open Go.RowKit
structure Site where
 N : Nat
 code : Code
 run : BothF → AAct → AHeap → CodeT
open Classical in
def Site.ok (P : Program) (s : Site) : Prop := ∀ both, BothAll P both → ∀ w0 rb, CodeROK P w0 s.N rb (s.run both) s.code
open Classical in
def decA (ts : List Nat) (ds : DefT) : R → CodeT
 | some (r, h) => some (.normal, ⟨Fr.tree (tupFr ts r), ds⟩, h)
 | none => none
def decB (ds : DefT) : R → CodeT
 | some (r, h) => some (decE r, ⟨Fr.tree [], ds⟩, h)
 | none => none
theorem decA_some {ts : List Nat} {ds : DefT} {x : R} {e : AExit} {a' : AAct} {h' : AHeap} (z : decA ts ds x = some (e, a', h')) : ∃ r, x = some (r, h') ∧ e = .normal ∧ a' = ⟨Fr.tree (tupFr ts r), ds⟩ := by
 cases x with
 | none => cases z
 | some p =>
  obtain ⟨r, h⟩ := p
  simp only [decA, Option.some.injEq, Prod.mk.injEq] at z
  obtain ⟨rfl, rfl, rfl⟩ := z
  exact ⟨r, rfl, rfl, rfl⟩
theorem decB_some {ds : DefT} {x : R} {e : AExit} {a' : AAct} {h' : AHeap} (z : decB ds x = some (e, a', h')) : ∃ r, x = some (r, h') ∧ e = decE r ∧ a' = ⟨Fr.tree [], ds⟩ := by
 cases x with
 | none => cases z
 | some p =>
  obtain ⟨r, h⟩ := p
  simp only [decB, Option.some.injEq, Prod.mk.injEq] at z
  obtain ⟨rfl, rfl, rfl⟩ := z
  exact ⟨r, rfl, rfl, rfl⟩
end
end Go.Proofs.Ytpnccmlajhhpdaa.Abs
namespace Go.Proofs.Ytpnccmlajhhpdaa.Abs
noncomputable section
open Go.RowKit
def orF (a b : CallF) : CallF := fun f args h => match a f args h with
 | some r => some r
 | none => b f args h
theorem orF_ok {P : Program} {a b : CallF} (ha : SaysAll P a) (hb : SaysAll P b) : SaysAll P (orF a b) := by
 intro f args h r h' e
 unfold orF at e
 split at e
 ·rename_i r' e2
  cases e
  exact ha _ _ _ _ _ e2
 ·exact hb _ _ _ _ _ e
theorem orF_l {a b : CallF} {f : FuncId} {args : List AV} {h : AHeap} {x : ARes × AHeap} (e : a f args h = some x) : orF a b f args h = some x := by
 unfold orF
 rw [e]
theorem orF_r {a b : CallF} {f : FuncId} {args : List AV} {h : AHeap} (e : a f args h = none) : orF a b f args h = b f args h := by
 unfold orF
 rw [e]
theorem callOf_none {f : FuncId} : ∀ (l : List (FuncId × FnT)) (args : List AV) (h : AHeap), (l.all fun p => !Nat.beq p.1 f) = true → callOf l f args h = none
 | [], _, _, _ => rfl
 | (g, s) :: l, args, h, e => by
  rw [List.all_cons, Bool.and_eq_true] at e
  unfold callOf
  have e1 : Nat.beq g f = false := by simpa using e.1
  rw [e1]
  exact callOf_none l args h e.2
def Code.tag : Code → Nat
 | .region id _ _ => id + 1
 | .seq a b => Code.tag a * 3 + Code.tag b
 | .cond _ a b => Code.tag a * 5 + Code.tag b
 | .block _ a => Code.tag a
 | .loop a => Code.tag a
 | _ => 0
structure LSite where
 N : Nat
 c : Code
 sa : List Nat
 fa : BothF → FnT
 ts : List Nat
 fb : BothF → FnT
open Classical in
def lsite (sites : List LSite) (q : ALoop) : Option LSite := sites.find? fun s => Nat.beq s.N q.N && (Nat.beq (Code.tag (Code.r2 s.c)) (Code.tag q.body) && decide (Code.r1 s.c = q.assign ∧ Code.r2 s.c = q.body))
theorem lsite_some {sites : List LSite} {q : ALoop} {s : LSite} (h : lsite sites q = some s) : s ∈ sites ∧ s.N = q.N ∧ Code.r1 s.c = q.assign ∧ Code.r2 s.c = q.body := by
 have h1 := List.mem_of_find?_eq_some h
 have h2 := List.find?_some h
 simp only [Bool.and_eq_true, decide_eq_true_eq] at h2
 exact ⟨h1, Nat.eq_of_beq_eq_true h2.1, h2.2.2.1, h2.2.2.2⟩
open Classical in
theorem lsite_hit {s : LSite} {l : List LSite} {q : ALoop} (h1 : s.N = q.N) (h2 : Code.r1 s.c = q.assign) (h3 : Code.r2 s.c = q.body) : lsite (s :: l) q = some s := by
 unfold lsite
 rw [List.find?_cons_of_pos]
 rw [h1, h2, h3, Nat.beq_refl, Nat.beq_refl]
 exact decide_eq_true ⟨rfl, rfl⟩
def slotsC (t : T AV) : List Nat → Option (List AV)
 | [] => some []
 | i :: l => match t.get i, slotsC t l with
  | some v, some vs => some (v :: vs)
  | _, _ => none
theorem slotsC_get {t : T AV} : ∀ {l : List Nat} {vs : List AV}, slotsC t l = some vs → ∀ i v, Fr.get (l.zip vs) i = some v → t.get i = some v
 | [], vs, h, i, v, e => by
  cases h
  cases e
 | j :: l, vs, h, i, v, e => by
  unfold slotsC at h
  split at h
  ·rename_i w ws e1 e2
   cases h
   rw [List.zip_cons_cons] at e
   unfold Fr.get at e
   split at e
   ·rename_i hb
    have := Nat.eq_of_beq_eq_true hb
    subst this
    cases e
    exact e1
   ·exact slotsC_get e2 i v e
  ·cases h
def LSite.A (s : LSite) (both : BothF) : AAct → AHeap → CodeT := fun a h => match slotsC a.tmps s.sa with
 | some vs => decA s.ts a.defers (s.fa both vs h)
 | none => none
def LSite.B (s : LSite) (both : BothF) : AAct → AHeap → CodeT := fun a h => match slotsC a.tmps s.ts with
 | some vs => decB a.defers (s.fb both vs h)
 | none => none
structure LSite.ok (P : Program) (s : LSite) : Prop where
 A : ∀ {both : BothF}, BothAll P both → ∀ {vs : List AV} {h : AHeap} {r : ARes} {h' : AHeap}, s.fa both vs h = some (r, h') → ∀ (w0 : Base) (m0 : Map) (rd : Option Nat) (n : Nat) (ds : DefT), WR P w0 m0 s.N rd n (Code.r1 s.c) (Post w0 m0 s.N .normal ⟨Fr.tree (tupFr s.ts r), ds⟩ h') (s.sa.zip vs) ds h
 B : ∀ {both : BothF}, BothAll P both → ∀ {vs : List AV} {h : AHeap} {r : ARes} {h' : AHeap}, s.fb both vs h = some (r, h') → ∀ (w0 : Base) (m0 : Map) (rd : Option Nat) (n : Nat) (ds : DefT), WR P w0 m0 s.N rd n (Code.r2 s.c) (Post w0 m0 s.N (decE r) ⟨Fr.tree [], ds⟩ h') (s.ts.zip vs) ds h
theorem LSite.okA {P : Program} {s : LSite} (hs : s.ok P) {both : BothF} (hc : BothAll P both) (w0 : Base) (rb : Option Nat) : CodeROK P w0 s.N rb (s.A both) (Code.r1 s.c) := by
 refine codeROK_of (fun t ds h e a' h' hr => ?_) rb
 unfold LSite.A at hr
 split at hr
 ·rename_i vs hv
  obtain ⟨r, e1, rfl, rfl⟩ := decA_some hr
  exact ⟨s.sa.zip vs, slotsC_get hv, fun rd n m0 => hs.A hc e1 w0 m0 rd n ds⟩
 ·cases hr
theorem LSite.okB {P : Program} {s : LSite} (hs : s.ok P) {both : BothF} (hc : BothAll P both) (w0 : Base) (rb : Option Nat) : CodeROK P w0 s.N rb (s.B both) (Code.r2 s.c) := by
 refine codeROK_of (fun t ds h e a' h' hr => ?_) rb
 unfold LSite.B at hr
 split at hr
 ·rename_i vs hv
  obtain ⟨r, e1, rfl, rfl⟩ := decB_some hr
  exact ⟨s.ts.zip vs, slotsC_get hv, fun rd n m0 => hs.B hc e1 w0 m0 rd n ds⟩
 ·cases hr
def roundQ (fa fb : ALoop → AAct → AHeap → CodeT) (b : Nat) (args : List AV) (h : AHeap) : Option (ARes × AHeap) := match h.get b with
 | some (.obj (.loop r)) => match putPs r.N r.ps.toList args r.tmps with
  | some t => midRound (fb r) b (fa r ⟨t, []⟩ h)
  | none => none
 | _ => none
theorem roundQ_ok {P : Program} {w0 : Base} {fa fb : ALoop → AAct → AHeap → CodeT} (ha : ∀ (q : ALoop) (b : Nat), CodeROK P w0 q.N (some b) (fa q) q.assign) (hb : ∀ (q : ALoop) (b : Nat), CodeROK P w0 q.N (some b) (fb q) q.body) : RoundOK P w0 (roundQ fa fb) := by
 intro b args h r h' hr m w args' g r' hra F hmb hl hlen rd n
 unfold roundQ at hr
 split at hr
 ·rename_i rr hb0
  split at hr
  ·rename_i t ht
   obtain ⟨_, _, _, r2, k1, k2, k3, k4, k5, k6, k7, k8, k9⟩ := F.obj _ _ _ _ _ hb0 hmb
   rw [hl] at k1
   cases k1
   have hfr := putPs_ok rr.ps.toList args args' rr.tmps t r'.tmps ht hra k4 k5
   have hz : (r'.params.zip ⟨args'⟩).foldl (fun tmps (x : Tmp × Value) => tmps.setIfInBounds x.1 x.2) r'.tmps = (rr.ps.toList.zip args').foldl (fun tmps (p : Tmp × Value) => tmps.setIfInBounds p.1 p.2) r'.tmps := by
    rw [k6, ← Array.foldl_toList, Array.toList_zip]
   rw [← hz] at hfr
   refine roundIn_of_wpIn trivial ?_
   have hrel : RelAct m rr.N ⟨t, []⟩ { tmps := (r'.params.zip ⟨args'⟩).foldl (fun tmps (x : Tmp × Value) => tmps.setIfInBounds x.1 x.2) r'.tmps, defers := [] } := ⟨hfr.1, fun i v hv => hfr.2 i v hv, .nil⟩
   unfold midRound at hr
   split at hr
   ·rename_i a1 h1 hcode
    have h1w := ha rr b _ _ _ _ _ hcode (some g) n m _ w hmb hrel F
    rw [k7]
    refine wpIn_mono h1w ?_
    rintro e1 act1 w1 ⟨m1, hx1, ha1, F1, hex⟩
    cases hex
    split at hr
    ·rename_i r1 hb1
     split at hr
     ·rename_i hst
      have hmb1 := hx1.le _ _ hmb
      obtain ⟨r1', q1, q2, q3, q4, F2⟩ := F1.reLoop hb1 hmb1 .busy r1.pend
      rw [← q3] at F2
      refine ⟨_, run_beginRound q1 (by rw [q2]; exact hst), ?_⟩
      unfold endRound at hr
      split at hr
      ·rename_i e3 a3 h3 hbody
       split at hr
       ·rename_i j hj
        split at hr
        ·rename_i r3 hb3
         simp only [Option.some.injEq, Prod.mk.injEq] at hr
         obtain ⟨rfl, rfl⟩ := hr
         have h2w := hb rr b _ _ _ _ _ hbody (some g) n m1 _ _ hmb1 ha1 F2
         rw [k8]
         refine wpIn_mono h2w ?_
         rintro e4 act4 w4 ⟨m4, hx4, ha4, F4, hex⟩
         have hmb4 := hx4.le _ _ hmb1
         obtain ⟨r3', p1, p2, p3, p4, F5⟩ := F4.reLoop hb3 hmb4 (if j.isNone then .ready else .done) j
         have hx := hx1.trans hx4
         cases hex with
         | normal =>
          simp only [jumpOf, Option.some.injEq] at hj
          subst hj
          exact ⟨_, _, run_endRound none p1, m4, hx, F5, _, rfl, .bool _⟩
         | ret =>
          simp only [jumpOf, Option.some.injEq] at hj
          subst hj
          exact ⟨_, _, run_endRound (some .ret) p1, m4, hx, F5, _, rfl, .bool _⟩
         | exit id =>
          simp only [jumpOf, Option.some.injEq] at hj
          subst hj
          exact ⟨_, _, run_endRound (some (.exit id)) p1, m4, hx, F5, _, rfl, .bool _⟩
         | goto l => cases hj
         | panic hv => cases hj
        ·cases hr
       ·cases hr
      ·cases hr
     ·cases hr
    ·cases hr
   ·cases hr
  ·cases hr
 ·cases hr
def roundL (sites : List LSite) (both : BothF) : Nat → List AV → AHeap → Option (ARes × AHeap) := roundQ
 (fun q => match lsite sites q with
  | some s => s.A both
  | none => fun _ _ => none)
 (fun q => match lsite sites q with
  | some s => s.B both
  | none => fun _ _ => none)
theorem roundL_ok {P : Program} {sites : List LSite} (hs : ∀ s ∈ sites, s.ok P) {both : BothF} (hc : BothAll P both) (w0 : Base) : RoundOK P w0 (roundL sites both) := by
 refine roundQ_ok (fun q b => ?_) (fun q b => ?_)
 ·cases hf : lsite sites q with
  | none => exact fun _ _ _ _ _ e => nomatch e
  | some s =>
   obtain ⟨h1, h2, h3, _⟩ := lsite_some hf
   rw [← h2, ← h3]
   exact LSite.okA (hs s h1) hc w0 (some b)
 ·cases hf : lsite sites q with
  | none => exact fun _ _ _ _ _ e => nomatch e
  | some s =>
   obtain ⟨h1, h2, _, h4⟩ := lsite_some hf
   rw [← h2, ← h4]
   exact LSite.okB (hs s h1) hc w0 (some b)
def worldL (sites : List LSite) (top : BothF → List (FuncId × FnT)) (base : CallF) : Nat → BothF := worldB (fun both => orF (callOf (top both)) base) (roundL sites)
theorem worldL_ok {P : Program} {sites : List LSite} (hs : ∀ s ∈ sites, s.ok P) {top : BothF → List (FuncId × FnT)} (ht : ∀ both, BothAll P both → SaysAll P (callOf (top both))) {base : CallF} (hb : SaysAll P base) (d : Nat) : BothAll P (worldL sites top base d) :=
 worldB_ok (fun _ hc => orF_ok (ht _ hc) hb) (fun _ hc w0 => roundL_ok hs hc w0) d
section
variable {sites : List LSite} {top : BothF → List (FuncId × FnT)} {base : CallF} {d : Nat} {f : FuncId} {args : List AV} {h : AHeap} {x : ARes × AHeap}
theorem worldL_top (e : callOf (top (worldL sites top base d)) f args h = some x) : worldL sites top base (d + 1) false f args h = some x := orF_l e
theorem worldL_base (e : callOf (top (worldL sites top base d)) f args h = none) : worldL sites top base (d + 1) false f args h = base f args h := orF_r e
end
def recQ (s : LoopState) (j : AJump) (N : Nat) (c : Code) (t : T AV) (D : Nat) : AObj := .obj (.loop ⟨s, j, t, N, Code.rgp c, Code.r1 c, Code.r2 c, D⟩)
theorem rngH_rec (N : Nat) (c : Code) (t : T AV) (h : AHeap) : (rngH N c t h).get (h.next + 1) = some (recQ .ready .none N c t h.next) := get_new_same _
theorem rngH_mark (N : Nat) (c : Code) (t : T AV) (h : AHeap) : (rngH N c t h).get h.next = some (.obj .dfr) := by
 refine (get_new_other _ ?_).trans (get_new_same _)
 show h.next + 1 ≠ h.next
 omega
theorem rngH_next (N : Nat) (c : Code) (t : T AV) (h : AHeap) : (rngH N c t h).next = h.next + 2 := rfl
theorem rngH_tch (S : List Nat) (N : Nat) (c : Code) (t : T AV) (h : AHeap) : Tch S h (rngH N c t h) := (Tch.new S h _).trans (Tch.new S _ _)
def jumpZ (z : Int) : AJump := match decE (.ret (.int .i64 z)) with
 | .ret => .ret
 | .exit id => .exit id
 | _ => .none
def stZ (j : AJump) : LoopState := if j.isNone then .ready else .done
theorem jumpOf_decE (k : IntKind) (z : Int) : jumpOf (decE (.ret (.int k z))) = some (jumpZ z) := by
 show jumpOf (match z with
  | 0 => AExit.normal
  | 1 => .ret
  | z => .exit (z - 2).toNat) = some (match (match z with
  | 0 => AExit.normal
  | 1 => .ret
  | z => .exit (z - 2).toNat) with
  | .ret => AJump.ret
  | .exit id => .exit id
  | _ => .none)
 split <;> rfl
section
variable {sites : List LSite} {both : BothF} {s : LSite} {b N D : Nat} {c : Code} {t t0 : T AV} {h h1 h2 : AHeap} {args vs ws : List AV} {z : Int} {j : AJump}
theorem round_L (hb : h.get b = some (recQ .ready j N c t0 D)) (hs : ∀ st jj, lsite sites ⟨st, jj, t0, N, Code.rgp c, Code.r1 c, Code.r2 c, D⟩ = some s) (hp : putPs N (Code.rgp c).toList args t0 = some t) (hg : slotsC t s.sa = some vs)
  (ea : s.fa both vs h = some (.ret (.tup ws), h1)) (k1 : h1.get b = h.get b) (hg2 : slotsC (Fr.tree (s.ts.zip ws)) s.ts = some ws)
  (eb : s.fb both ws (h1.put b (recQ .busy j N c t0 D)) = some (.ret (.int .i64 z), h2)) (k2 : h2.get b = some (recQ .busy j N c t0 D)) :
  roundL sites both b args h = some (.ret (.bool (jumpZ z).isNone), h2.put b (recQ (stZ (jumpZ z)) (jumpZ z) N c t0 D)) := by
 unfold roundL roundQ
 unfold recQ at hb k2 eb ⊢
 rw [hb]
 simp only [hp]
 rw [hs]
 have e1 : s.A both ⟨t, []⟩ h = some (.normal, ⟨Fr.tree (s.ts.zip ws), []⟩, h1) := by
  unfold LSite.A
  simp only [hg, ea]
  rfl
 simp only [e1, midRound]
 rw [k1, hb]
 have e2 : s.B both ⟨Fr.tree (s.ts.zip ws), []⟩ (h1.put b (.obj (.loop ⟨.busy, j, t0, N, Code.rgp c, Code.r1 c, Code.r2 c, D⟩))) = some (decE (.ret (.int .i64 z)), ⟨Fr.tree [], []⟩, h2) := by
  unfold LSite.B
  simp only [hg2, eb]
  rfl
 simp only [e2, endRound, jumpOf_decE, k2]
 rfl
end
end
end Go.Proofs.Ytpnccmlajhhpdaa.Abs
namespace Go.Proofs.Ytpnccmlajhhpdaa.Abs
noncomputable section
open Go.RowKit
section
variable {P : Program} {both : BothF} {sites : List LSite} {s : LSite} {b N D : Nat} {c : Code} {t0 : T AV} {h : AHeap} {args vs : List AV} {j : AJump} {st : LoopState} {Q : ARes → AHeap → Prop}
theorem dynB_yld (hb : h.get b = some (recQ st j N c t0 D)) (hl : Nat.beq args.length (Code.rgp c).size = true) : dynB P both (.yld b) args h = both true b args h := by
 have e : callV P h args (some (.yld b)) = some (.round b args, h) := by
  show yieldV h args b = _
  unfold yieldV
  rw [hb]
  unfold recQ
  simp only [hl, if_true]
 unfold dynB
 rw [e]
theorem Wp.marks0 {k : AHeap → R} (hk : Wp (k h) Q) : Wp (marksK [] h k) Q := hk
theorem Wp.marks1 {k : AHeap → R} {ds : DefT} (hD : h.get D = some (.obj .dfr)) (hk : Wp (marksK ds (h.put D (.obj .shut)) k) Q) : Wp (marksK (dmark D :: ds) h k) Q := by
 unfold marksK at hk ⊢
 have e : marksH (dmark D :: ds) h = marksH ds (h.put D (.obj .shut)) := by
  show (match h.get D with
   | some (.obj .dfr) => marksH ds (h.put D (.obj .shut))
   | _ => none) = _
  rw [hD]
 rw [e]
 exact hk
theorem round_W {G : Int → AHeap → Prop} (hb : h.get b = some (recQ .ready j N c t0 D)) (hs : ∀ st jj, lsite sites ⟨st, jj, t0, N, Code.rgp c, Code.r1 c, Code.r2 c, D⟩ = some s) (hg : ((putPs N (Code.rgp c).toList args t0).bind fun t => slotsC t s.sa) = some vs)
  (ea : Wp (s.fa both vs h) fun r h1 => ∃ ws, r = .ret (.tup ws) ∧ h1.get b = h.get b ∧ slotsC (Fr.tree (s.ts.zip ws)) s.ts = some ws ∧
   Wp (s.fb both ws (h1.put b (recQ .busy j N c t0 D))) fun r2 h2 => ∃ z, r2 = .ret (.int .i64 z) ∧ h2.get b = some (recQ .busy j N c t0 D) ∧ G z (h2.put b (recQ (stZ (jumpZ z)) (jumpZ z) N c t0 D))) :
  ∃ z h', roundL sites both b args h = some (.ret (.bool (jumpZ z).isNone), h') ∧ G z h' := by
 obtain ⟨t, hp, hg⟩ := Option.bind_eq_some_iff.1 hg
 obtain ⟨_, h1, e1, ws, rfl, k1, g2, _, h2, e2, z, rfl, k2, hG⟩ := ea
 exact ⟨z, _, round_L hb hs hp hg e1 k1 g2 e2 k2, hG⟩
end
section
variable {P : Program} {both : BothF} {N : Nat} {c : Code} {t : T AV} {ds : DefT} {h h2 : AHeap} {kn kr : AHeap → R} {ke : Nat → AHeap → R} {Q : ARes → AHeap → Prop} {g : FuncId} {first cap : List AV} {v : AV} {st : LoopState} {j : AJump}
theorem Wp.rng (hb : hasBody P g = true) (e : both false g (first ++ [.yld (h.next + 1)] ++ cap) (rngH N c t h) = some (.ret v, h2)) (hq : h2.get (h.next + 1) = some (recQ st j N c t h.next)) (hs : st ≠ .busy)
  (hn : j = .none → Wp (kn (h2.put (h.next + 1) (recQ .exhausted j N c t h.next))) Q) (hr : j = .ret → Wp (kr (h2.put (h.next + 1) (recQ .exhausted j N c t h.next))) Q) (he : ∀ id, j = .exit id → Wp (ke id (h2.put (h.next + 1) (recQ .exhausted j N c t h.next))) Q) : Wp (rngK (rngX P both N (.fn g first cap) c t ds h) kn kr ke) Q := by
 cases j with
 | none => exact Wp.rngN hb e hq hs rfl (hn rfl)
 | ret => exact Wp.rngR hb e hq hs rfl (hr rfl)
 | exit id => exact Wp.rngE hb e hq hs rfl (he id rfl)
end
theorem Wp.lettG {α : Type} {a : α} {K : α → R} {Q : ARes → AHeap → Prop} (hk : ∀ x, x = a → Wp (K x) Q) : Wp (Abs.lett a K) Q := hk a rfl
end
end Go.Proofs.Ytpnccmlajhhpdaa.Abs
namespace Go.Proofs.Ytpnccmlajhhpdaa
open Go.RowKit Abs
noncomputable def frame_All_1_L0b (both : BothF) (t0 : AV) (t1 : AV) (self : Int → AHeap → R) (t3 : Int) (h_4 : AHeap) : R :=
 obind (ldCell h_4 t1) fun v8 =>
 obind (avStr v8) fun t8 =>
 obind (sliceS t8 t3 (lenS t8)) fun t10 =>
 callN (both false 93 [strA t10] h_4) fun r11 h_10 =>
 obind (extT 0 r11) fun v12 =>
 obind (avStr v12) fun t12 =>
 obind (extT 1 r11) fun v13 =>
 obind (avInt .i64 v13) fun t13 =>
 obind (extT 2 r11) fun v14 =>
 obind (avInt .i64 v14) fun t14 =>
 lett ((t14 : Int) != 0) fun (t16 : Bool) =>
 lett (fun (t23 : Bool) (h_21 : AHeap) =>
  ifB t23
  (
   marksK [] h_21 fun h_24 =>
   some (.ret (.tup []), h_24))
  (
   lett (IntKind.i64.wrap (t3 + t13)) fun (t26 : Int) =>
   self t26 h_21)) fun j23 =>
 ifB t16
 (
  j23 true h_10)
 (
  callN (dynB Try.prog both t0 [.int .i64 t3, strA t12] h_10) fun r21 h_26 =>
  obind (avBool r21) fun t21 =>
  lett (!t21) fun (t22 : Bool) =>
  j23 t22 h_26)
noncomputable def frame_All_1_L0 (both : BothF) (t0 : AV) (t1 : AV) : Nat → Int → AHeap → R := iterR (fun _ _ => none) (frame_All_1_L0b both t0 t1)
theorem frame_All_1_L0_s (both : BothF) (t0 : AV) (t1 : AV) (m : Nat) : frame_All_1_L0 both t0 t1 (m + 1) = frame_All_1_L0b both t0 t1 (frame_All_1_L0 both t0 t1 m) := rfl
noncomputable def frame_All_1 (both : BothF) (n : Nat) (t0 : AV) (t1 : AV) (h : AHeap) : R :=
 frame_All_1_L0 both t0 t1 n 0 h
set_option maxHeartbeats 4000000 in
set_option maxRecDepth 20000 in
theorem frame_All_1_ok {both : BothF} (hc : BothAll Try.prog both) {n : Nat} {t0 : AV} {t1 : AV} {h : AHeap} {rR : ARes} {hR : AHeap} (hF : frame_All_1 both n t0 t1 h = some (rR, hR)) : Says Try.prog 92 [t0, t1] h rR hR := by
 unfold frame_All_1 at hF
 refine says_ofM (fn := Try.f92) Try.func92 (c := codeOf Try.f92) (by kernel_rfl) (by kernel_rfl) (fun w0 m0 => ?_)
 refine WR.weaken (l' := [(0, t0), (1, t1)]) (Fr.sub_cons (by kernel_rfl) (Fr.sub_cons (by kernel_rfl) (Fr.sub_nil _))) ?_
 refine WR.seqK (by kernel_rfl) (fun K1 n1 e1 q1 p1 => ?_)
 refine WR.region (by kernel_rfl) ?_
 refine WLR.val (d := (some 3)) (v := .int .i64 0) (h' := h) (by kernel_rfl) (by kernel_rfl) (by kernel_rfl) ?_
 refine WLR.nil (by kernel_rfl) ?_
 refine Go.weaken (l' := [(0, t0), (1, t1), (3, .int .i64 0)]) (Fr.sub_cons (by kernel_rfl) (Fr.sub_cons (by kernel_rfl) (Fr.sub_cons (by kernel_rfl) (Fr.sub_nil _)))) ?_
 refine n1 ?_
 refine WR.blockK (by kernel_rfl) (fun K2 n2 s2 o2 q2 p2 => ?_)
 refine WR.loopK (by kernel_rfl) (fun I3 K3 b3 n3 e3 q3 p3 => ?_)
 have L3 : ∀ (m : Nat) (t3 : Int) (h_4 : AHeap), frame_All_1_L0 both t0 t1 m t3 h_4 = some (rR, hR) → Go w0 m0 (Func.ntmps Try.f92) I3 [(0, t0), (1, t1), (3, .int .i64 t3)] [] h_4 := by
  intro m
  induction m with
  | zero => intro t3 h_4 hF; cases hF
  | succ m ih3 =>
   intro t3 h_4 hF
   rw [frame_All_1_L0_s] at hF; unfold frame_All_1_L0b at hF
   refine b3 ?_
   refine WR.blockK (by kernel_rfl) (fun K5 n5 s5 o5 q5 p5 => ?_)
   refine WR.seqK (by kernel_rfl) (fun K6 n6 e6 q6 p6 => ?_)
   refine WR.region (by kernel_rfl) ?_
   replace hF := obind_some hF; obtain ⟨v8, e7, hF⟩ := hF
   replace hF := obind_some hF; obtain ⟨t8, c8, hF⟩ := hF
   have c8 := avStr_some c8
   subst c8
   refine WLR.val (d := (some 8)) (v := strA t8) (h' := h_4) (by kernel_rfl) (by kernel_rfl) (Eq.trans (by kernel_rfl) (load_cell (P := Try.prog) (h := h_4) (t := 9) (by kernel_rfl) e7)) ?_
   refine WLR.val (d := (some 9)) (v := .int .i64 t3) (h' := h_4) (by kernel_rfl) (by kernel_rfl) (by kernel_rfl) ?_
   replace hF := obind_some hF; obtain ⟨t10, e9, hF⟩ := hF
   refine WLR.val (d := (some 10)) (v := strA t10) (h' := h_4) (by kernel_rfl) (by kernel_rfl) (Eq.trans (by kernel_rfl) (slice_str (P := Try.prog) (h := h_4) (t := 9) (A := (some (.int .i64 t3))) (B := none) (by kernel_rfl) (.inl ⟨_, rfl⟩) (.inr ⟨rfl, rfl⟩) e9)) ?_
   replace hF := callN_some hF; obtain ⟨r11, h_10, e11, hF⟩ := hF
   refine WLR.call (hc.says.ok w0) (d := (some 11)) (by kernel_rfl) (by kernel_rfl) (by kernel_rfl) e11 ?_
   refine WLR.val (d := (some 7)) (v := r11) (h' := h_10) (by kernel_rfl) (by kernel_rfl) (by kernel_rfl) ?_
   replace hF := obind_some hF; obtain ⟨v12, e12, hF⟩ := hF
   replace hF := obind_some hF; obtain ⟨t12, c13, hF⟩ := hF
   have c13 := avStr_some c13
   subst c13
   refine WLR.val (d := (some 12)) (v := strA t12) (h' := h_10) (by kernel_rfl) (by kernel_rfl) (Eq.trans (by kernel_rfl) (extract_tup (h := h_10) e12)) ?_
   replace hF := obind_some hF; obtain ⟨v13, e14, hF⟩ := hF
   replace hF := obind_some hF; obtain ⟨t13, c15, hF⟩ := hF
   have c15 := avInt_some c15
   subst c15
   refine WLR.val (d := (some 13)) (v := .int .i64 t13) (h' := h_10) (by kernel_rfl) (by kernel_rfl) (Eq.trans (by kernel_rfl) (extract_tup (h := h_10) e14)) ?_
   replace hF := obind_some hF; obtain ⟨v14, e16, hF⟩ := hF
   replace hF := obind_some hF; obtain ⟨t14, c17, hF⟩ := hF
   have c17 := avInt_some c17
   subst c17
   refine WLR.val (d := (some 14)) (v := .int .i64 t14) (h' := h_10) (by kernel_rfl) (by kernel_rfl) (Eq.trans (by kernel_rfl) (extract_tup (h := h_10) e16)) ?_
   refine WLR.val (d := (some 4)) (v := strA t12) (h' := h_10) (by kernel_rfl) (by kernel_rfl) (by kernel_rfl) ?_
   refine WLR.val (d := (some 5)) (v := .int .i64 t13) (h' := h_10) (by kernel_rfl) (by kernel_rfl) (by kernel_rfl) ?_
   refine WLR.val (d := (some 6)) (v := .int .i64 t14) (h' := h_10) (by kernel_rfl) (by kernel_rfl) (by kernel_rfl) ?_
   refine WLR.nil (by kernel_rfl) ?_
   refine Go.weaken (l' := [(0, t0), (1, t1), (3, .int .i64 t3), (4, strA t12), (5, .int .i64 t13), (6, .int .i64 t14)]) (Fr.sub_cons (by kernel_rfl) (Fr.sub_cons (by kernel_rfl) (Fr.sub_cons (by kernel_rfl) (Fr.sub_cons (by kernel_rfl) (Fr.sub_cons (by kernel_rfl) (Fr.sub_cons (by kernel_rfl) (Fr.sub_nil _))))))) ?_
   refine n6 ?_
   refine WR.seqK (by kernel_rfl) (fun K18 n18 e18 q18 p18 => ?_)
   refine WR.seqK (by kernel_rfl) (fun K19 n19 e19 q19 p19 => ?_)
   refine WR.region (by kernel_rfl) ?_
   refine WLR.val (d := (some 15)) (v := .int .i64 t14) (h' := h_10) (by kernel_rfl) (by kernel_rfl) (by kernel_rfl) ?_
   replace hF := lett_some hF; obtain ⟨t16, e20, hF⟩ := hF
   refine WLR.val (d := (some 16)) (v := .bool t16) (h' := h_10) (by kernel_rfl) (by kernel_rfl) (val_of AV.bool e20 (by kernel_rfl)) ?_
   refine WLR.val (d := (some 17)) (v := .bool t16) (h' := h_10) (by kernel_rfl) (by kernel_rfl) (by kernel_rfl) ?_
   replace hF := lett_some hF; obtain ⟨j23, e22, hF⟩ := hF
   have J23 : ∀ (t23 : Bool) (h_21 : AHeap), j23 t23 h_21 = some (rR, hR) → WLR Try.prog w0 m0 (Func.ntmps Try.f92) none 0 (Code.ops (Code.p1 (Code.p1 (Code.p2 (Code.p1 (Code.p1 (Code.p1 (Code.p2 (codeOf Try.f92))))))))) 9 K19 [(0, t0), (1, t1), (3, .int .i64 t3), (5, .int .i64 t13), (23, .bool t23)] [] h_21 := by
    intro t23 h_21 hF
    rw [e22] at hF
    refine WLR.nil (by kernel_rfl) ?_
    refine Go.weaken (l' := [(0, t0), (1, t1), (3, .int .i64 t3), (5, .int .i64 t13), (23, .bool t23)]) (Fr.sub_cons (by kernel_rfl) (Fr.sub_cons (by kernel_rfl) (Fr.sub_cons (by kernel_rfl) (Fr.sub_cons (by kernel_rfl) (Fr.sub_cons (by kernel_rfl) (Fr.sub_nil _)))))) ?_
    refine n19 ?_
    cases t23 with
    | true =>
     replace hF := ifB_t hF
     refine WR.cond_true (by kernel_rfl) (by kernel_rfl) ?_
     refine WR.ret (by kernel_rfl) ?_
     refine q18 ?_
     refine q5 ?_
     refine q3 ?_
     refine q2 ?_
     refine Go.leaveK hF (fun h_24 hF => ?_)
     obtain ⟨hF, hF2⟩ := ret_inj hF; subst hF; subst hF2
     exact ret_of (rs := []) (vs := []) (by kernel_rfl) res_nil (by kernel_rfl)
    | false =>
     replace hF := ifB_f hF
     refine WR.cond_false (by kernel_rfl) (by kernel_rfl) ?_
     refine WR.skip (by kernel_rfl) ?_
     refine n18 ?_
     refine WR.region (by kernel_rfl) ?_
     refine WLR.val (d := (some 24)) (v := .int .i64 t3) (h' := h_21) (by kernel_rfl) (by kernel_rfl) (by kernel_rfl) ?_
     refine WLR.val (d := (some 25)) (v := .int .i64 t13) (h' := h_21) (by kernel_rfl) (by kernel_rfl) (by kernel_rfl) ?_
     replace hF := lett_some hF; obtain ⟨t26, e25, hF⟩ := hF
     refine WLR.val (d := (some 26)) (v := .int .i64 t26) (h' := h_21) (by kernel_rfl) (by kernel_rfl) (val_of (AV.int .i64) e25 (by kernel_rfl)) ?_
     refine WLR.val (d := (some 3)) (v := .int .i64 t26) (h' := h_21) (by kernel_rfl) (by kernel_rfl) (by kernel_rfl) ?_
     refine WLR.nil (by kernel_rfl) ?_
     refine Go.weaken (l' := [(0, t0), (1, t1), (3, .int .i64 t26)]) (Fr.sub_cons (by kernel_rfl) (Fr.sub_cons (by kernel_rfl) (Fr.sub_cons (by kernel_rfl) (Fr.sub_nil _)))) ?_
     refine n5 ?_
     refine n3 ?_
     exact Go.weaken (Fr.sub_cons (by kernel_rfl) (Fr.sub_cons (by kernel_rfl) (Fr.sub_cons (by kernel_rfl) (Fr.sub_nil _)))) (ih3 _ _ hF)
   cases t16 with
   | true =>
    replace hF := ifB_t hF
    refine WLR.not (d := (some 18)) (by kernel_rfl) (by kernel_rfl) ?_
    refine WLR.not (d := (some 19)) (by kernel_rfl) (by kernel_rfl) ?_
    refine WLR.not (d := (some 20)) (by kernel_rfl) (by kernel_rfl) ?_
    refine WLR.not (d := (some 21)) (by kernel_rfl) (by kernel_rfl) ?_
    refine WLR.not (d := (some 22)) (by kernel_rfl) (by kernel_rfl) ?_
    refine WLR.val (d := (some 23)) (v := .bool true) (h' := h_10) (by kernel_rfl) (by kernel_rfl) (by kernel_rfl) ?_
    exact WLR.weaken (Fr.sub_cons (by kernel_rfl) (Fr.sub_cons (by kernel_rfl) (Fr.sub_cons (by kernel_rfl) (Fr.sub_cons (by kernel_rfl) (Fr.sub_cons (by kernel_rfl) (Fr.sub_nil _)))))) (J23 _ _ hF)
   | false =>
    replace hF := ifB_f hF
    refine WLR.val (d := (some 18)) (v := t0) (h' := h_10) (by kernel_rfl) (by kernel_rfl) (by kernel_rfl) ?_
    refine WLR.val (d := (some 19)) (v := .int .i64 t3) (h' := h_10) (by kernel_rfl) (by kernel_rfl) (by kernel_rfl) ?_
    refine WLR.val (d := (some 20)) (v := strA t12) (h' := h_10) (by kernel_rfl) (by kernel_rfl) (by kernel_rfl) ?_
    replace hF := callN_some hF; obtain ⟨r21, h_26, e27, hF⟩ := hF
    replace hF := obind_some hF; obtain ⟨t21, c28, hF⟩ := hF
    have c28 := avBool_some c28
    subst c28
    refine WLR.dyn (d := (some 21)) hc e27 ?_
    replace hF := lett_some hF; obtain ⟨t22, e29, hF⟩ := hF
    refine WLR.val (d := (some 22)) (v := .bool t22) (h' := h_26) (by kernel_rfl) (by kernel_rfl) (val_of AV.bool e29 (by kernel_rfl)) ?_
    refine WLR.val (d := (some 23)) (v := .bool t22) (h' := h_26) (by kernel_rfl) (by kernel_rfl) (by kernel_rfl) ?_
    exact WLR.weaken (Fr.sub_cons (by kernel_rfl) (Fr.sub_cons (by kernel_rfl) (Fr.sub_cons (by kernel_rfl) (Fr.sub_cons (by kernel_rfl) (Fr.sub_cons (by kernel_rfl) (Fr.sub_nil _)))))) (J23 _ _ hF)
 exact Go.weaken (Fr.sub_cons (by kernel_rfl) (Fr.sub_cons (by kernel_rfl) (Fr.sub_cons (by kernel_rfl) (Fr.sub_nil _)))) (L3 _ _ _ hF)
noncomputable def frame_All_1_fn (both : BothF) (n : Nat) : FnT := fun args h => match args with
 | [x0, x1] => frame_All_1 both n x0 x1 h
 | _ => none
set_option maxRecDepth 100000 in
theorem frame_All_1_fn_eq (both : BothF) (n : Nat) (t0 : AV) (t1 : AV) (h : AHeap) : frame_All_1_fn both n [t0, t1] h = frame_All_1 both n t0 t1 h :=
 rfl
theorem frame_All_1_holds {both : BothF} (hc : BothAll Try.prog both) (n : Nat) : Holds Try.prog 92 (frame_All_1_fn both n) := by
 intro args h r h2 e
 unfold frame_All_1_fn at e
 split at e
 ·exact frame_All_1_ok hc (n := n) e
 ·cases e
noncomputable def frame_Scan_R0A (_ : BothF) (_ : Nat) (t2 : AV) (t3 : AV) (t8 : Int) (t9 : Bytes) (h : AHeap) : R :=
 some (.ret (.tup [t2, t3, .int .i64 t8, strA t9]), h)
set_option maxHeartbeats 4000000 in
set_option maxRecDepth 20000 in
theorem frame_Scan_R0A_ok {both : BothF} (_ : BothAll Try.prog both) {n : Nat} {t2 : AV} {t3 : AV} {t8 : Int} {t9 : Bytes} {h : AHeap} {rR : ARes} {hR : AHeap} (hF : frame_Scan_R0A both n t2 t3 t8 t9 h = some (rR, hR)) {w0 : Base} {m0 : Map} {rd : Option Nat} {nR : Nat} {ds : DefT} : WR Try.prog w0 m0 (Func.ntmps Try.f77) rd nR (Code.r1 (Code.p1 (Code.p2 (Code.p1 (Code.p2 (codeOf Try.f77)))))) (Post w0 m0 (Func.ntmps Try.f77) .normal ⟨Fr.tree (tupFr [2, 3, 4, 5] rR), ds⟩ hR) [(2, t2), (3, t3), (8, .int .i64 t8), (9, strA t9)] ds h := by
 unfold frame_Scan_R0A at hF
 refine WR.seqK (by kernel_rfl) (fun K26 n26 e26 q26 p26 => ?_)
 refine WR.region (by kernel_rfl) ?_
 refine WLR.val (d := (some 4)) (v := .int .i64 t8) (h' := h) (by kernel_rfl) (by kernel_rfl) (by kernel_rfl) ?_
 refine WLR.nil (by kernel_rfl) ?_
 refine Go.weaken (l' := [(2, t2), (3, t3), (4, .int .i64 t8), (9, strA t9)]) (Fr.sub_cons (by kernel_rfl) (Fr.sub_cons (by kernel_rfl) (Fr.sub_cons (by kernel_rfl) (Fr.sub_cons (by kernel_rfl) (Fr.sub_nil _))))) ?_
 refine n26 ?_
 refine WR.region (by kernel_rfl) ?_
 refine WLR.val (d := (some 5)) (v := strA t9) (h' := h) (by kernel_rfl) (by kernel_rfl) (by kernel_rfl) ?_
 refine WLR.nil (by kernel_rfl) ?_
 refine Go.weaken (l' := [(2, t2), (3, t3), (4, .int .i64 t8), (5, strA t9)]) (Fr.sub_cons (by kernel_rfl) (Fr.sub_cons (by kernel_rfl) (Fr.sub_cons (by kernel_rfl) (Fr.sub_cons (by kernel_rfl) (Fr.sub_nil _))))) ?_
 obtain ⟨hF, hF2⟩ := ret_inj hF; subst hF; subst hF2
 exact Go.postN (l' := [(2, t2), (3, t3), (4, .int .i64 t8), (5, strA t9)]) (Fr.sub_cons (by kernel_rfl) (Fr.sub_cons (by kernel_rfl) (Fr.sub_cons (by kernel_rfl) (Fr.sub_cons (by kernel_rfl) (Fr.sub_nil _)))))
noncomputable def frame_Scan_R0A_fn (both : BothF) (n : Nat) : FnT := fun args h => match args with
 | [x2, x3, x8, x9] => obind (avInt .i64 x8) fun t8 => obind (avStr x9) fun t9 => frame_Scan_R0A both n x2 x3 t8 t9 h
 | _ => none
set_option maxRecDepth 100000 in
theorem frame_Scan_R0A_fn_eq (both : BothF) (n : Nat) (t2 : AV) (t3 : AV) (t8 : Int) (t9 : Bytes) (h : AHeap) : frame_Scan_R0A_fn both n [t2, t3, .int .i64 t8, strA t9] h = frame_Scan_R0A both n t2 t3 t8 t9 h :=
 (Eq.trans (obind_eq (fun t8 => obind (avStr (strA t9)) fun t9 => frame_Scan_R0A both n t2 t3 t8 t9 h) (avInt_int .i64 t8)) (Eq.trans (obind_eq (fun t9 => frame_Scan_R0A both n t2 t3 t8 t9 h) (avStr_str t9)) rfl))
noncomputable def frame_Scan_R0B (_ : BothF) (_ : Nat) (t2 : AV) (t3 : AV) (t4 : Int) (t5 : Bytes) (h : AHeap) : R :=
 obind (ldCell h t2) fun v10 =>
 outK (bldSl Try.prog h 81 1 [(0, strA t5)]) fun v12 h_30 =>
 outK (opAppend Try.prog h_30 81 81 v10 v12) fun v13 h_32 =>
 obind (stRow h_32 1 (AV.cells v13) t2) fun h_34 =>
 lett (IntKind.i64.wrap (t4 + 8)) fun (t15 : Int) =>
 lett (IntKind.i64.wrap (t15 + (lenS t5))) fun (t18 : Int) =>
 lett (IntKind.i64.wrap (t18 + 4)) fun (t19 : Int) =>
 obind (stRow h_34 1 [.int .i64 t19] t3) fun h_39 =>
 some (.ret (.int .i64 0), h_39)
set_option maxHeartbeats 4000000 in
set_option maxRecDepth 20000 in
theorem frame_Scan_R0B_ok {both : BothF} (_ : BothAll Try.prog both) {n : Nat} {t2 : AV} {t3 : AV} {t4 : Int} {t5 : Bytes} {h : AHeap} {rR : ARes} {hR : AHeap} (hF : frame_Scan_R0B both n t2 t3 t4 t5 h = some (rR, hR)) {w0 : Base} {m0 : Map} {rd : Option Nat} {nR : Nat} {ds : DefT} : WR Try.prog w0 m0 (Func.ntmps Try.f77) rd nR (Code.r2 (Code.p1 (Code.p2 (Code.p1 (Code.p2 (codeOf Try.f77)))))) (Post w0 m0 (Func.ntmps Try.f77) (decE rR) ⟨Fr.tree [], ds⟩ hR) [(2, t2), (3, t3), (4, .int .i64 t4), (5, strA t5)] ds h := by
 unfold frame_Scan_R0B at hF
 refine WR.blockK (by kernel_rfl) (fun K27 n27 s27 o27 q27 p27 => ?_)
 refine WR.seqK (by kernel_rfl) (fun K28 n28 e28 q28 p28 => ?_)
 refine WR.region (by kernel_rfl) ?_
 replace hF := obind_some hF; obtain ⟨v10, e29, hF⟩ := hF
 refine WLR.val (d := (some 10)) (v := v10) (h' := h) (by kernel_rfl) (by kernel_rfl) (Eq.trans (by kernel_rfl) (load_cell (P := Try.prog) (h := h) (t := 81) (by kernel_rfl) e29)) ?_
 refine WLR.val (d := (some 11)) (v := strA t5) (h' := h) (by kernel_rfl) (by kernel_rfl) (by kernel_rfl) ?_
 replace hF := outK_some hF; obtain ⟨v12, h_30, e31, hF⟩ := hF
 refine WLR.val (d := (some 12)) (v := v12) (h' := h_30) (by kernel_rfl) (by kernel_rfl) (Eq.trans (by kernel_rfl) e31) ?_
 replace hF := outK_some hF; obtain ⟨v13, h_32, e33, hF⟩ := hF
 refine WLR.val (d := (some 13)) (v := v13) (h' := h_32) (by kernel_rfl) (by kernel_rfl) (Eq.trans (by kernel_rfl) e33) ?_
 replace hF := obind_some hF; obtain ⟨h_34, e35, hF⟩ := hF
 refine WLR.eff (h' := h_34) (by kernel_rfl) (by kernel_rfl) (Eq.trans (by kernel_rfl) (store_row (P := Try.prog) (h := h_32) (t := 81) (v := v13) (by kernel_rfl) (by kernel_rfl) e35)) ?_
 refine WLR.nil (by kernel_rfl) ?_
 refine Go.weaken (l' := [(3, t3), (4, .int .i64 t4), (5, strA t5)]) (Fr.sub_cons (by kernel_rfl) (Fr.sub_cons (by kernel_rfl) (Fr.sub_cons (by kernel_rfl) (Fr.sub_nil _)))) ?_
 refine n28 ?_
 refine WR.region (by kernel_rfl) ?_
 refine WLR.val (d := (some 14)) (v := .int .i64 t4) (h' := h_34) (by kernel_rfl) (by kernel_rfl) (by kernel_rfl) ?_
 replace hF := lett_some hF; obtain ⟨t15, e36, hF⟩ := hF
 refine WLR.val (d := (some 15)) (v := .int .i64 t15) (h' := h_34) (by kernel_rfl) (by kernel_rfl) (val_of (AV.int .i64) e36 (by kernel_rfl)) ?_
 refine WLR.val (d := (some 16)) (v := strA t5) (h' := h_34) (by kernel_rfl) (by kernel_rfl) (by kernel_rfl) ?_
 refine WLR.val (d := (some 17)) (v := .int .i64 (lenS t5)) (h' := h_34) (by kernel_rfl) (by kernel_rfl) (by kernel_rfl) ?_
 replace hF := lett_some hF; obtain ⟨t18, e37, hF⟩ := hF
 refine WLR.val (d := (some 18)) (v := .int .i64 t18) (h' := h_34) (by kernel_rfl) (by kernel_rfl) (val_of (AV.int .i64) e37 (by kernel_rfl)) ?_
 replace hF := lett_some hF; obtain ⟨t19, e38, hF⟩ := hF
 refine WLR.val (d := (some 19)) (v := .int .i64 t19) (h' := h_34) (by kernel_rfl) (by kernel_rfl) (val_of (AV.int .i64) e38 (by kernel_rfl)) ?_
 replace hF := obind_some hF; obtain ⟨h_39, e40, hF⟩ := hF
 refine WLR.eff (h' := h_39) (by kernel_rfl) (by kernel_rfl) (Eq.trans (by kernel_rfl) (store_row (P := Try.prog) (h := h_34) (t := 3) (v := (.int .i64 t19)) (by kernel_rfl) (by kernel_rfl) e40)) ?_
 refine WLR.nil (by kernel_rfl) ?_
 refine Go.weaken (l' := []) (Fr.sub_nil _) ?_
 refine n27 ?_
 obtain ⟨hF, hF2⟩ := ret_inj hF; subst hF; subst hF2
 exact Go.postN (l' := []) (Fr.sub_nil _)
noncomputable def frame_Scan_R0B_fn (both : BothF) (n : Nat) : FnT := fun args h => match args with
 | [x2, x3, x4, x5] => obind (avInt .i64 x4) fun t4 => obind (avStr x5) fun t5 => frame_Scan_R0B both n x2 x3 t4 t5 h
 | _ => none
set_option maxRecDepth 100000 in
theorem frame_Scan_R0B_fn_eq (both : BothF) (n : Nat) (t2 : AV) (t3 : AV) (t4 : Int) (t5 : Bytes) (h : AHeap) : frame_Scan_R0B_fn both n [t2, t3, .int .i64 t4, strA t5] h = frame_Scan_R0B both n t2 t3 t4 t5 h :=
 (Eq.trans (obind_eq (fun t4 => obind (avStr (strA t5)) fun t5 => frame_Scan_R0B both n t2 t3 t4 t5 h) (avInt_int .i64 t4)) (Eq.trans (obind_eq (fun t5 => frame_Scan_R0B both n t2 t3 t4 t5 h) (avStr_str t5)) rfl))
noncomputable def frame_Scan_R0 (n : Nat) : LSite := ⟨Func.ntmps Try.f77, (Code.p1 (Code.p2 (Code.p1 (Code.p2 (codeOf Try.f77))))), [2, 3, 8, 9], fun both => frame_Scan_R0A_fn both n, [2, 3, 4, 5], fun both => frame_Scan_R0B_fn both n⟩
set_option maxRecDepth 20000 in
theorem frame_Scan_R0_ok (n : Nat) : LSite.ok Try.prog (frame_Scan_R0 n) where
 A := fun hc vs h r h2 e0 w0 m0 rd n2 ds => by
   have e : frame_Scan_R0A_fn _ n vs h = some (r, h2) := e0
   clear e0
   unfold frame_Scan_R0A_fn at e
   split at e
   ·replace e := obind_some e; obtain ⟨t8, c8, e⟩ := e; have c8 := avInt_some c8; subst c8
    replace e := obind_some e; obtain ⟨t9, c9, e⟩ := e; have c9 := avStr_some c9; subst c9
    exact frame_Scan_R0A_ok hc (n := n) e
   ·cases e
 B := fun hc vs h r h2 e0 w0 m0 rd n2 ds => by
   have e : frame_Scan_R0B_fn _ n vs h = some (r, h2) := e0
   clear e0
   unfold frame_Scan_R0B_fn at e
   split at e
   ·replace e := obind_some e; obtain ⟨t4, c4, e⟩ := e; have c4 := avInt_some c4; subst c4
    replace e := obind_some e; obtain ⟨t5, c5, e⟩ := e; have c5 := avStr_some c5; subst c5
    exact frame_Scan_R0B_ok hc (n := n) e
   ·cases e
noncomputable def frame_Scan (both : BothF) (_ : Nat) (t0 : Bytes) (h : AHeap) : R :=
 lett (newH h 81 [.nsl]) fun h_2 =>
 lett (newH h_2 3 [.int .i64 0]) fun h_4 =>
 callN (both false 87 [strA t0] h_4) fun r7 h_8 =>
 rngK (rngX Try.prog both (Func.ntmps Try.f77) r7 (Code.p1 (Code.p2 (Code.p1 (Code.p2 (codeOf Try.f77))))) (Fr.tree [(2, (newP h)), (3, (newP h_2)), (7, r7)]) [] h_8) (fun h_11 =>
  obind (ldCell h_11 (newP h)) fun v20 =>
  obind (ldCell h_11 (newP h_2)) fun v21 =>
  obind (avInt .i64 v21) fun t21 =>
  obind (stRow h_11 1 (AV.cells v20) (newP h)) fun h_18 =>
  chk (reLoad Try.prog h_18 3 (newP h_2) (.int .i64 t21) && (true && true)) <|
  obind (stRow h_18 1 [.int .i64 t21] (newP h_2)) fun h_21 =>
  marksK (dmark (AHeap.next h_8) :: []) h_21 fun h_23 =>
  obind (ldCell h_23 (newP h)) fun w2 =>
  obind (ldCell h_23 (newP h_2)) fun w3 =>
  some (.ret (.tup [w2, w3]), h_23)) (fun _ =>
  none) (fun _ _ =>
  none)
set_option maxHeartbeats 4000000 in
set_option maxRecDepth 20000 in
theorem frame_Scan_ok {both : BothF} (hc : BothAll Try.prog both) {n : Nat} {t0 : Bytes} {h : AHeap} {rR : ARes} {hR : AHeap} (hF : frame_Scan both n t0 h = some (rR, hR)) : Says Try.prog 77 [strA t0] h rR hR := by
 unfold frame_Scan at hF
 refine says_ofM (fn := Try.f77) Try.func77 (c := codeOf Try.f77) (by kernel_rfl) (by kernel_rfl) (fun w0 m0 => ?_)
 refine WR.weaken (l' := [(0, strA t0)]) (Fr.sub_cons (by kernel_rfl) (Fr.sub_nil _)) ?_
 refine WR.seqK (by kernel_rfl) (fun K1 n1 e1 q1 p1 => ?_)
 refine WR.region (by kernel_rfl) ?_
 replace hF := lett_some hF; obtain ⟨h_2, e3, hF⟩ := hF
 refine WLR.val (d := (some 2)) (v := (newP h)) (h' := h_2) (by kernel_rfl) (by kernel_rfl) (val_ofH e3 (by kernel_rfl)) ?_
 replace hF := lett_some hF; obtain ⟨h_4, e5, hF⟩ := hF
 refine WLR.val (d := (some 3)) (v := (newP h_2)) (h' := h_4) (by kernel_rfl) (by kernel_rfl) (val_ofH e5 (by kernel_rfl)) ?_
 refine WLR.nil (by kernel_rfl) ?_
 refine Go.weaken (l' := [(0, strA t0), (2, (newP h)), (3, (newP h_2))]) (Fr.sub_cons (by kernel_rfl) (Fr.sub_cons (by kernel_rfl) (Fr.sub_cons (by kernel_rfl) (Fr.sub_nil _)))) ?_
 refine n1 ?_
 refine WR.seqK (by kernel_rfl) (fun K6 n6 e6 q6 p6 => ?_)
 refine WR.seqK (by kernel_rfl) (fun K7 n7 e7 q7 p7 => ?_)
 refine WR.region (by kernel_rfl) ?_
 refine WLR.val (d := (some 6)) (v := strA t0) (h' := h_4) (by kernel_rfl) (by kernel_rfl) (by kernel_rfl) ?_
 replace hF := callN_some hF; obtain ⟨r7, h_8, e9, hF⟩ := hF
 refine WLR.call (hc.says.ok w0) (d := (some 7)) (by kernel_rfl) (by kernel_rfl) (by kernel_rfl) e9 ?_
 refine WLR.nil (by kernel_rfl) ?_
 refine Go.weaken (l' := [(2, (newP h)), (3, (newP h_2)), (7, r7)]) (Fr.sub_cons (by kernel_rfl) (Fr.sub_cons (by kernel_rfl) (Fr.sub_cons (by kernel_rfl) (Fr.sub_nil _)))) ?_
 refine n7 ?_
 refine WR.blockK (by kernel_rfl) (fun K10 n10 s10 o10 q10 p10 => ?_)
 refine WR.rng hc hF (fun h_11 hF => ?_) (fun h_12 hF => ?_) (fun id h_13 hF => ?_)
 ·skip
  refine n10 ?_
  refine n6 ?_
  refine WR.seqK (by kernel_rfl) (fun K14 n14 e14 q14 p14 => ?_)
  refine WR.draw (by kernel_rfl) (hc.says.ok w0) (plan := [0, 1, 2, 3]) (by kernel_rfl) (by kernel_rfl) (by kernel_rfl) ?_
  replace hF := obind_some hF; obtain ⟨v20, e15, hF⟩ := hF
  refine WD.val (d := (some 20)) (v := v20) (h' := h_11) (by kernel_rfl) (by kernel_rfl) (Eq.trans (by kernel_rfl) (load_cell (P := Try.prog) (h := h_11) (t := 81) (by kernel_rfl) e15)) (k := 1) (by kernel_rfl) (fun e => absurd e (by decide)) (by decide) ?_
  replace hF := obind_some hF; obtain ⟨v21, e16, hF⟩ := hF
  replace hF := obind_some hF; obtain ⟨t21, c17, hF⟩ := hF
  have c17 := avInt_some c17
  subst c17
  refine WD.val (d := (some 21)) (v := .int .i64 t21) (h' := h_11) (by kernel_rfl) (by kernel_rfl) (Eq.trans (by kernel_rfl) (load_cell (P := Try.prog) (h := h_11) (t := 3) (by kernel_rfl) e16)) (k := 1) (by kernel_rfl) (fun e => absurd e (by decide)) (by decide) ?_
  replace hF := obind_some hF; obtain ⟨h_18, e19, hF⟩ := hF
  replace hF := chk_some hF; obtain ⟨k20, hF⟩ := hF
  refine WD.eff (h' := h_18) (by kernel_rfl) (by kernel_rfl) (Eq.trans (by kernel_rfl) (store_row (P := Try.prog) (h := h_11) (t := 81) (v := v20) (by kernel_rfl) (by kernel_rfl) e19)) (k := 2) (by kernel_rfl) (fun _ => (Eq.trans (by kernel_rfl) k20)) (by decide) ?_
  replace hF := obind_some hF; obtain ⟨h_21, e22, hF⟩ := hF
  refine WD.eff (h' := h_21) (by kernel_rfl) (by kernel_rfl) (Eq.trans (by kernel_rfl) (store_row (P := Try.prog) (h := h_18) (t := 3) (v := (.int .i64 t21)) (by kernel_rfl) (by kernel_rfl) e22)) (k := 2) (by kernel_rfl) (fun _ => (by kernel_rfl)) (by decide) ?_
  refine WD.nil ?_
  refine Go.weaken (l' := [(2, (newP h)), (3, (newP h_2))]) (Fr.sub_cons (by kernel_rfl) (Fr.sub_cons (by kernel_rfl) (Fr.sub_nil _))) ?_
  refine n14 ?_
  refine WR.ret (by kernel_rfl) ?_
  refine Go.leaveK hF (fun h_23 hF => ?_)
  replace hF := obind_some hF; obtain ⟨w2, e24, hF⟩ := hF
  replace hF := obind_some hF; obtain ⟨w3, e25, hF⟩ := hF
  obtain ⟨hF, hF2⟩ := ret_inj hF; subst hF; subst hF2
  exact ret_of (rs := [.cell 2 81, .cell 3 3]) (vs := [w2, w3]) (by kernel_rfl) (res_cell (by kernel_rfl) (load_cell (P := Try.prog) (h := h_23) (t := 81) (by kernel_rfl) e24) (res_cell (by kernel_rfl) (load_cell (P := Try.prog) (h := h_23) (t := 3) (by kernel_rfl) e25) res_nil)) (by kernel_rfl)
 ·skip
  cases hF
 ·skip
  cases hF
noncomputable def frame_Scan_fn (both : BothF) (n : Nat) : FnT := fun args h => match args with
 | [x0] => obind (avStr x0) fun t0 => frame_Scan both n t0 h
 | _ => none
set_option maxRecDepth 100000 in
theorem frame_Scan_fn_eq (both : BothF) (n : Nat) (t0 : Bytes) (h : AHeap) : frame_Scan_fn both n [strA t0] h = frame_Scan both n t0 h :=
 (Eq.trans (obind_eq (fun t0 => frame_Scan both n t0 h) (avStr_str t0)) rfl)
theorem frame_Scan_holds {both : BothF} (hc : BothAll Try.prog both) (n : Nat) : Holds Try.prog 77 (frame_Scan_fn both n) := by
 intro args h r h2 e
 unfold frame_Scan_fn at e
 split at e
 ·replace e := obind_some e; obtain ⟨t0, c0, e⟩ := e; have c0 := avStr_some c0; subst c0
  exact frame_Scan_ok hc (n := n) e
 ·cases e
noncomputable def snap_read (call : CallF) (_ : Nat) (t0 : Bytes) (h : AHeap) : R :=
 lett (newH h 39 [.int .i64 0, .int .i64 0]) fun h_2 =>
 callN (call 77 [strA t0] h_2) fun r10 h_5 =>
 obind (extT 0 r10) fun v11 =>
 obind (extT 1 r10) fun v12 =>
 obind (avInt .i64 v12) fun _ =>
 obind (lenL v11) fun t14 =>
 lett ((t14 : Int) == 0) fun (t15 : Bool) =>
 lett (fun (t22 : Bool) (h_14 : AHeap) =>
  ifB t22
  (
   obind (stRow h_14 2 ([.int .i64 0, .int .i64 0] : List AV) (newP h)) fun h_18 =>
   obind (ldRow h_18 2 (newP h)) fun w2 =>
   some (.ret (.tup [.agg w2, strA ([] : Bytes), .bool false]), h_18))
  (
   obind (idxP 1 v11 0) fun t25 =>
   obind (ldCell h_14 t25) fun v26 =>
   obind (avStr v26) fun t26 =>
   obind (sliceS t26 8 (lenS t26)) fun t27 =>
   callN (call 78 [strA t27] h_14) fun r28 h_26 =>
   callN (call 79 [r28] h_26) fun r30 h_29 =>
   obind (avInt .u64 r30) fun t30 =>
   lett (IntKind.i64.wrap t30) fun (t31 : Int) =>
   callN (call 79 [r28] h_29) fun r33 h_33 =>
   obind (avInt .u64 r33) fun t33 =>
   lett (IntKind.i64.wrap t33) fun (t34 : Int) =>
   obind (stRow h_33 2 ([.int .i64 t31, .int .i64 t34] : List AV) (newP h)) fun h_37 =>
   outK (sliceA Try.prog h_37 81 v11 (some (.int .i64 1)) none) fun v37 h_40 =>
   callK (call 80 [v37, strA ([] : Bytes)] h_40) fun r38 h_42 =>
   obind (avStr r38) fun t38 =>
   obind (ldRow h_42 2 (newP h)) fun t39 =>
   callN (call 41 [.agg t39] h_42) fun r40 h_48 =>
   obind (avBool r40) fun t40 =>
   lett (!t40) fun (t41 : Bool) =>
   lett (fun (t46 : Bool) (h_52 : AHeap) =>
    lett (fun (t53 : Bool) (h_55 : AHeap) =>
     ifB t53
     (
      obind (stRow h_55 2 ([.int .i64 0, .int .i64 0] : List AV) (newP h)) fun h_59 =>
      obind (ldRow h_59 2 (newP h)) fun w2_62 =>
      some (.ret (.tup [.agg w2_62, strA ([] : Bytes), .bool false]), h_59))
     (
      obind (ldRow h_55 2 (newP h)) fun t55 =>
      obind (stRow h_55 2 t55 (newP h)) fun h_65 =>
      obind (ldRow h_65 2 (newP h)) fun w2_68 =>
      some (.ret (.tup [.agg w2_68, strA t38, .bool true]), h_65))) fun j53 =>
    ifB t46
    (
     j53 true h_52)
    (
     obind (ldRow h_52 2 (newP h)) fun t48 =>
     callN (call 43 [.agg t48, strA t38] h_52) fun r50 h_70 =>
     obind (avStr r50) fun t50 =>
     lett (!eqS t50 t0) fun (t52 : Bool) =>
     j53 t52 h_70)) fun j46 =>
   ifB t41
   (
    j46 true h_48)
   (
    lett (decide ((lenS t38) > 262144)) fun (t45 : Bool) =>
    j46 t45 h_48))) fun j22 =>
 ifB t15
 (
  j22 true h_5)
 (
  obind (idxP 1 v11 0) fun t18 =>
  obind (ldCell h_5 t18) fun v19 =>
  obind (avStr v19) fun t19 =>
  callN (call 32 [strA t19, strA ([115, 110, 97, 112, 115, 104, 111, 116] : Bytes)] h_5) fun r20 h_79 =>
  obind (avBool r20) fun t20 =>
  lett (!t20) fun (t21 : Bool) =>
  j22 t21 h_79)
set_option maxHeartbeats 4000000 in
set_option maxRecDepth 20000 in
theorem snap_read_ok {call : CallF} (hc : SaysAll Try.prog call) {n : Nat} {t0 : Bytes} {h : AHeap} {rR : ARes} {hR : AHeap} (hF : snap_read call n t0 h = some (rR, hR)) : Says Try.prog 61 [strA t0] h rR hR := by
 unfold snap_read at hF
 refine sO Try.func61 fun w0 m0 => ?_
 refine wW [(0, strA t0)] ?_
 refine oG fun n1 => W.r ?_
 refine oN 2 hF fun h_2 hF => ?_
 refine oA 3 (strA ([] : Bytes)) ?_
 refine oA 4 (.bool false) ?_
 refine oV [(0, strA t0), (2, (newP h))] (n1 ?_)
 refine oG fun n4 => W.r ?_
 refine oA 9 (strA t0) ?_
 refine oC hc (some 10) hF fun r10 h_5 hF => ?_
 refine oA 8 r10 ?_
 refine oE 11 hF fun v11 hF => ?_
 refine oEi 12 hF fun t12 hF => ?_
 refine oA 5 v11 ?_
 refine oA 6 (.int .i64 t12) ?_
 refine oV [(0, strA t0), (2, (newP h)), (5, v11)] (n4 ?_)
 refine oH fun n10 q10 => ?_
 refine W.s (fun K11 n11 e11 q11 p11 => ?_)
 refine W.r ?_
 refine oA 13 v11 ?_
 refine oM 14 81 9 hF fun t14 hF => ?_
 refine oB 15 hF fun t15 hF => ?_
 refine oA 16 (.bool t15) ?_
 obtain ⟨j22, e15, hF⟩ := lett_some hF
 have J16 : ∀ (t22 : Bool) (h_14 : AHeap), j22 t22 h_14 = some (rR, hR) → WL Try.prog w0 m0 (Func.ntmps Try.f61) (Code.ops (Code.p1 (Code.p1 (Code.p2 (Code.p2 (codeOf Try.f61)))))) 10 K11 [(0, strA t0), (2, (newP h)), (5, v11), (22, .bool t22)] [] h_14 := by
  intro t22 h_14 hF
  rw [e15] at hF
  refine oV [(0, strA t0), (2, (newP h)), (5, v11), (22, .bool t22)] (n11 ?_)
  cases t22 with
  | true =>
   refine oT hF fun hF => ?_
   refine oG fun n17 => W.r ?_
   refine oA 23 (.agg ([.int .i64 0, .int .i64 0] : List AV)) ?_
   refine oW 39 (.agg ([.int .i64 0, .int .i64 0] : List AV)) hF fun h_18 hF => ?_
   refine oA 3 (strA ([] : Bytes)) ?_
   refine oA 4 (.bool false) ?_
   refine oV [(2, (newP h)), (3, strA ([] : Bytes)), (4, .bool false)] (n17 (oY (q10 ?_)))
   obtain ⟨w2, e20, hF⟩ := obind_some hF
   exact lZ hF [.cell 2 39, .tmp 3, .tmp 4] [.agg w2, strA ([] : Bytes), .bool false] (rY e20 (rT (rT res_nil)))
  | false =>
   refine oU hF fun hF => ?_
   refine oZ (n10 ?_)
   refine oG fun n21 => W.r ?_
   refine oA 24 v11 ?_
   refine oP 25 81 9 .i64 hF fun t25 hF => ?_
   refine oLs 26 9 hF fun t26 hF => ?_
   obtain ⟨t27, e25, hF⟩ := obind_some hF
   refine WL.b (some 27) (strA t27) h_14 (slice_str (P := Try.prog) (h := h_14) (t := 9) (A := (some (.int .i64 8))) (B := none) (by kernel_rfl) (.inl ⟨_, rfl⟩) (.inr ⟨rfl, rfl⟩) e25) ?_
   refine oC hc (some 28) hF fun r28 h_26 hF => ?_
   refine oA 7 r28 ?_
   refine oV [(0, strA t0), (2, (newP h)), (5, v11), (7, r28)] (n21 ?_)
   refine oG fun n28 => W.r ?_
   refine oA 29 r28 ?_
   refine oCi hc 30 hF fun t30 h_29 hF => ?_
   refine oI 31 .i64 hF fun t31 hF => ?_
   refine oA 32 r28 ?_
   refine oCi hc 33 hF fun t33 h_33 hF => ?_
   refine oI 34 .i64 hF fun t34 hF => ?_
   refine oA 35 (.agg ([.int .i64 t31, .int .i64 t34] : List AV)) ?_
   refine oW 39 (.agg ([.int .i64 t31, .int .i64 t34] : List AV)) hF fun h_37 hF => ?_
   refine oV [(0, strA t0), (2, (newP h)), (5, v11)] (n28 ?_)
   refine oJ fun n39 p39 => W.r ?_
   refine oA 36 v11 ?_
   refine oK 37 hF fun v37 h_40 hF => ?_
   refine oCK hc (some 38) hF (fun q => p39 (Pf q)) fun r38 h_42 hF => ?_
   replace hF := obind_some hF; obtain ⟨t38, c44, hF⟩ := hF
   have c44 := avStr_some c44
   subst c44
   refine oA 3 (strA t38) ?_
   refine oV [(0, strA t0), (2, (newP h)), (3, strA t38)] (n39 ?_)
   refine oH fun n45 q45 => ?_
   refine W.s (fun K46 n46 e46 q46 p46 => ?_)
   refine W.r ?_
   refine oR 39 39 hF fun t39 hF => ?_
   refine oCb hc 40 hF fun t40 h_48 hF => ?_
   refine oB 41 hF fun t41 hF => ?_
   refine oA 42 (.bool t41) ?_
   obtain ⟨j46, e53, hF⟩ := lett_some hF
   have J54 : ∀ (t46 : Bool) (h_52 : AHeap), j46 t46 h_52 = some (rR, hR) → WL Try.prog w0 m0 (Func.ntmps Try.f61) (Code.ops (Code.p1 (Code.p1 (Code.p2 (Code.p2 (Code.p2 (Code.p2 (Code.p2 (Code.p2 (codeOf Try.f61)))))))))) 8 K46 [(0, strA t0), (2, (newP h)), (3, strA t38), (46, .bool t46)] [] h_52 := by
    intro t46 h_52 hF
    rw [e53] at hF
    refine oA 47 (.bool t46) ?_
    obtain ⟨j53, e56, hF⟩ := lett_some hF
    have J57 : ∀ (t53 : Bool) (h_55 : AHeap), j53 t53 h_55 = some (rR, hR) → WL Try.prog w0 m0 (Func.ntmps Try.f61) (Code.ops (Code.p1 (Code.p1 (Code.p2 (Code.p2 (Code.p2 (Code.p2 (Code.p2 (Code.p2 (codeOf Try.f61)))))))))) 15 K46 [(2, (newP h)), (3, strA t38), (53, .bool t53)] [] h_55 := by
     intro t53 h_55 hF
     rw [e56] at hF
     refine oV [(2, (newP h)), (3, strA t38), (53, .bool t53)] (n46 ?_)
     cases t53 with
     | true =>
      refine oT hF fun hF => ?_
      refine oG fun n58 => W.r ?_
      refine oA 54 (.agg ([.int .i64 0, .int .i64 0] : List AV)) ?_
      refine oW 39 (.agg ([.int .i64 0, .int .i64 0] : List AV)) hF fun h_59 hF => ?_
      refine oA 3 (strA ([] : Bytes)) ?_
      refine oA 4 (.bool false) ?_
      refine oV [(2, (newP h)), (3, strA ([] : Bytes)), (4, .bool false)] (n58 (oY (q45 ?_)))
      obtain ⟨w2_62, e61, hF⟩ := obind_some hF
      exact lZ hF [.cell 2 39, .tmp 3, .tmp 4] [.agg w2_62, strA ([] : Bytes), .bool false] (rY e61 (rT (rT res_nil)))
     | false =>
      refine oU hF fun hF => ?_
      refine oZ (n45 ?_)
      refine oG fun n63 => W.r ?_
      refine oR 55 39 hF fun t55 hF => ?_
      refine oA 56 (strA t38) ?_
      refine oW 39 (.agg t55) hF fun h_65 hF => ?_
      refine oA 3 (strA t38) ?_
      refine oA 4 (.bool true) ?_
      refine oV [(2, (newP h)), (3, strA t38), (4, .bool true)] (n63 (oY ?_))
      obtain ⟨w2_68, e67, hF⟩ := obind_some hF
      exact lZ hF [.cell 2 39, .tmp 3, .tmp 4] [.agg w2_68, strA t38, .bool true] (rY e67 (rT (rT res_nil)))
    cases t46 with
    | true =>
     replace hF := ifB_t hF
     refine WL.o (some 48) ?_
     refine WL.o (some 49) ?_
     refine WL.o (some 50) ?_
     refine WL.o (some 51) ?_
     refine WL.o (some 52) ?_
     refine oA 53 (.bool true) ?_
     exact lW _ (J57 _ _ hF)
    | false =>
     replace hF := ifB_f hF
     refine oR 48 39 hF fun t48 hF => ?_
     refine oA 49 (strA t38) ?_
     refine oCs hc 50 hF fun t50 h_70 hF => ?_
     refine oA 51 (strA t0) ?_
     refine oB 52 hF fun t52 hF => ?_
     refine oA 53 (.bool t52) ?_
     exact lW _ (J57 _ _ hF)
   cases t41 with
   | true =>
    replace hF := ifB_t hF
    refine WL.o (some 43) ?_
    refine WL.o (some 44) ?_
    refine WL.o (some 45) ?_
    refine oA 46 (.bool true) ?_
    exact lW _ (J54 _ _ hF)
   | false =>
    replace hF := ifB_f hF
    refine oA 43 (strA t38) ?_
    refine oA 44 (.int .i64 (lenS t38)) ?_
    refine oB 45 hF fun t45 hF => ?_
    refine oA 46 (.bool t45) ?_
    exact lW _ (J54 _ _ hF)
 cases t15 with
 | true =>
  replace hF := ifB_t hF
  refine WL.o (some 17) ?_
  refine WL.o (some 18) ?_
  refine WL.o (some 19) ?_
  refine WL.o (some 20) ?_
  refine WL.o (some 21) ?_
  refine oA 22 (.bool true) ?_
  exact lW _ (J16 _ _ hF)
 | false =>
  replace hF := ifB_f hF
  refine oA 17 v11 ?_
  refine oP 18 81 9 .i64 hF fun t18 hF => ?_
  refine oLs 19 9 hF fun t19 hF => ?_
  refine oCb hc 20 hF fun t20 h_79 hF => ?_
  refine oB 21 hF fun t21 hF => ?_
  refine oA 22 (.bool t21) ?_
  exact lW _ (J16 _ _ hF)
noncomputable def snap_look_L0b (call : CallF) (t0 : AV) (h_2 : AHeap) (k13 : AHeap → R) (self : Int → AHeap → R) (t11 : Int) (h_21 : AHeap) : R :=
 lett (decide (t11 < 2)) fun (t12 : Bool) =>
 ifB t12
 (
  obind (idxA 2 5 (newP h_2) t11) fun t15 =>
  obind (nilC t15) fun t19 =>
  obind (fldP 0 t19) fun t20 =>
  obind (ldCell h_21 t20) fun v21 =>
  obind (avInt .i64 v21) fun t21 =>
  callN (call 60 [t0, .int .i64 t21] h_21) fun r22 h_35 =>
  obind (extT 0 r22) fun v23 =>
  obind (avStr v23) fun t23 =>
  obind (extT 1 r22) fun v24 =>
  obind (avInt .i64 v24) fun t24 =>
  lett ((t24 : Int) == 0) fun (t26 : Bool) =>
  lett (fun  (h_44 : AHeap) =>
   lett (IntKind.i64.wrap (t11 + 1)) fun (t42 : Int) =>
   self t42 h_44) fun k43 =>
  ifB t26
  (
   callK (call 61 [strA t23] h_35) fun r32 h_46 =>
   obind (extT 0 r32) fun v33 =>
   obind (avAgg v33) fun t33 =>
   obind (extT 1 r32) fun v34 =>
   obind (avStr v34) fun t34 =>
   obind (extT 2 r32) fun v35 =>
   obind (avBool v35) fun t35 =>
   obind (nilC t15) fun t36 =>
   obind (fldP 2 t36) fun t37 =>
   obind (stRow h_46 2 t33 t37) fun h_56 =>
   obind (nilC t15) fun t38 =>
   obind (fldP 4 t38) fun t39 =>
   obind (stRow h_56 1 [strA t34] t39) fun h_60 =>
   obind (nilC t15) fun t40 =>
   obind (fldP 1 t40) fun t41 =>
   obind (stRow h_60 1 [.bool t35] t41) fun h_64 =>
   k43 h_64)
  (
   k43 h_35))
 (
  k13 h_21)
noncomputable def snap_look_L0 (call : CallF) (t0 : AV) (h_2 : AHeap) (k13 : AHeap → R) : Nat → Int → AHeap → R := iterR (fun _ _ => none) (snap_look_L0b call t0 h_2 k13)
theorem snap_look_L0_s (call : CallF) (t0 : AV) (h_2 : AHeap) (k13 : AHeap → R) (m : Nat) : snap_look_L0 call t0 h_2 k13 (m + 1) = snap_look_L0b call t0 h_2 k13 (snap_look_L0 call t0 h_2 k13 m) := rfl
noncomputable def snap_look (call : CallF) (n : Nat) (t0 : AV) (h : AHeap) : R :=
 lett (newH h 110 [.int .i64 0, .bool false, .int .i64 0, .int .i64 0, .str 0 0, .int .i64 0, .bool false, .int .i64 0, .int .i64 0, .str 0 0]) fun h_2 =>
 obind (bldS Try.prog 110 [(0, .agg ([.int .i64 2, .bool false, .int .i64 0, .int .i64 0, .str 0 0] : List AV)), (1, .agg ([.int .i64 3, .bool false, .int .i64 0, .int .i64 0, .str 0 0] : List AV))]) fun t10 =>
 lett (newH h_2 110 [.int .i64 0, .bool false, .int .i64 0, .int .i64 0, .str 0 0, .int .i64 0, .bool false, .int .i64 0, .int .i64 0, .str 0 0]) fun h_6 =>
 obind (stRow h_6 10 t10 (newP h_2)) fun h_8 =>
 lett (fun  (h_14 : AHeap) =>
  obind (ldRow h_14 10 (newP h_2)) fun t43 =>
  obind (stRow h_14 10 t43 (newP h)) fun h_17 =>
  obind (ldRow h_17 10 (newP h)) fun w2 =>
  some (.ret (.agg w2), h_17)) fun k13 =>
 snap_look_L0 call t0 h_2 k13 n 0 h_8
set_option maxHeartbeats 4000000 in
set_option maxRecDepth 20000 in
theorem snap_look_ok {call : CallF} (hc : SaysAll Try.prog call) {n : Nat} {t0 : AV} {h : AHeap} {rR : ARes} {hR : AHeap} (hF : snap_look call n t0 h = some (rR, hR)) : Says Try.prog 39 [t0] h rR hR := by
 unfold snap_look at hF
 refine sO Try.func39 fun w0 m0 => ?_
 refine wW [(0, t0)] ?_
 refine oG fun n1 => W.r ?_
 refine oN 2 hF fun h_2 hF => ?_
 refine oV [(0, t0), (2, (newP h))] (n1 ?_)
 refine oG fun n4 => W.r ?_
 refine oA 8 (.agg ([.int .i64 2, .bool false, .int .i64 0, .int .i64 0, .str 0 0] : List AV)) ?_
 refine oA 9 (.agg ([.int .i64 3, .bool false, .int .i64 0, .int .i64 0, .str 0 0] : List AV)) ?_
 obtain ⟨t10, e5, hF⟩ := obind_some hF
 refine WL.val (d := (some 10)) (v := .agg t10) (h' := h_2) (by kernel_rfl) (by kernel_rfl) (bld_ok (by kernel_rfl) e5) ?_
 refine oN 3 hF fun h_6 hF => ?_
 refine oW 110 (.agg t10) hF fun h_8 hF => ?_
 refine oV [(0, t0), (2, (newP h)), (3, (newP h_2))] (n4 ?_)
 refine W.s (fun K10 n10 e10 q10 p10 => ?_)
 refine oG fun n11 => W.r ?_
 refine oA 11 (.int .i64 0) ?_
 refine oV [(0, t0), (2, (newP h)), (3, (newP h_2)), (11, .int .i64 0)] (n11 ?_)
 obtain ⟨k13, e13, hF⟩ := lett_some hF
 have J13 : ∀  (h_14 : AHeap), k13 h_14 = some (rR, hR) → Go w0 m0 (Func.ntmps Try.f39) (K10 .normal) [(2, (newP h)), (3, (newP h_2))] [] h_14 := by
  intro  h_14 hF
  rw [e13] at hF
  refine n10 ?_
  refine oG fun n15 => W.r ?_
  refine oR 43 110 hF fun t43 hF => ?_
  refine oW 110 (.agg t43) hF fun h_17 hF => ?_
  refine oV [(2, (newP h))] (n15 (oY ?_))
  obtain ⟨w2, e19, hF⟩ := obind_some hF
  exact lZ hF [.cell 2 110] [.agg w2] (rY e19 res_nil)
 refine W.blockK (by kernel_rfl) (fun K12 n12 s12 o12 q12 p12 => ?_)
 refine W.loopK (by kernel_rfl) (fun I20 K20 b20 n20 e20 q20 p20 => ?_)
 have L20 : ∀ (m : Nat) (t11 : Int) (h_21 : AHeap), snap_look_L0 call t0 h_2 k13 m t11 h_21 = some (rR, hR) → Go w0 m0 (Func.ntmps Try.f39) I20 [(0, t0), (2, (newP h)), (3, (newP h_2)), (11, .int .i64 t11)] [] h_21 := by
  intro m
  induction m with
  | zero => intro t11 h_21 hF; cases hF
  | succ m ih20 =>
   intro t11 h_21 hF
   rw [snap_look_L0_s] at hF; unfold snap_look_L0b at hF
   refine b20 ?_
   refine oG fun n22 => W.r ?_
   refine oB 12 hF fun t12 hF => ?_
   refine oV [(0, t0), (2, (newP h)), (3, (newP h_2)), (11, .int .i64 t11), (12, .bool t12)] (n22 ?_)
   refine W.s (fun K24 n24 e24 q24 p24 => ?_)
   cases t12 with
   | true =>
    refine oT hF fun hF => ?_
    refine oZ (n24 ?_)
    refine oJ fun n25 p25 => ?_
    refine W.blockK (by kernel_rfl) (fun K26 n26 s26 o26 q26 p26 => ?_)
    refine oG fun n27 => W.r ?_
    refine oA 13 (.int .i64 t11) ?_
    refine oA 4 (.int .i64 t11) ?_
    refine oV [(0, t0), (2, (newP h)), (3, (newP h_2)), (4, .int .i64 t11), (11, .int .i64 t11)] (n27 ?_)
    refine oG fun n28 => W.r ?_
    refine oA 14 (.int .i64 t11) ?_
    refine oQ 15 110 109 .i64 hF fun t15 hF => ?_
    refine oA 5 t15 ?_
    refine oV [(0, t0), (2, (newP h)), (3, (newP h_2)), (5, t15), (11, .int .i64 t11)] (n28 ?_)
    refine oG fun n30 => W.r ?_
    refine oA 17 t0 ?_
    refine oA 18 t15 ?_
    refine oC0 19 hF fun t19 hF => ?_
    refine oF 20 109 0 hF fun t20 hF => ?_
    refine oLi 21 3 hF fun t21 hF => ?_
    refine oC hc (some 22) hF fun r22 h_35 hF => ?_
    refine oA 16 r22 ?_
    refine oEs 23 hF fun t23 hF => ?_
    refine oEi 24 hF fun t24 hF => ?_
    refine oA 6 (strA t23) ?_
    refine oA 7 (.int .i64 t24) ?_
    refine oV [(0, t0), (2, (newP h)), (3, (newP h_2)), (5, t15), (6, strA t23), (7, .int .i64 t24), (11, .int .i64 t11)] (n30 ?_)
    refine oG fun n41 => W.r ?_
    refine oA 25 (.int .i64 t24) ?_
    refine oB 26 hF fun t26 hF => ?_
    refine oV [(0, t0), (2, (newP h)), (3, (newP h_2)), (5, t15), (6, strA t23), (11, .int .i64 t11), (26, .bool t26)] (n41 ?_)
    obtain ⟨k43, e43, hF⟩ := lett_some hF
    have J43 : ∀  (h_44 : AHeap), k43 h_44 = some (rR, hR) → Go w0 m0 (Func.ntmps Try.f39) (K26 .normal) [(0, t0), (2, (newP h)), (3, (newP h_2)), (11, .int .i64 t11)] [] h_44 := by
     intro  h_44 hF
     rw [e43] at hF
     refine n26 (n25 (W.r ?_))
     refine oI 42 .i64 hF fun t42 hF => ?_
     refine oA 11 (.int .i64 t42) ?_
     refine oV [(0, t0), (2, (newP h)), (3, (newP h_2)), (11, .int .i64 t42)] (n20 ?_)
     exact gW _ (ih20 _ _ hF)
    cases t26 with
    | true =>
     refine oT hF fun hF => ?_
     refine W.r ?_
     refine oA 28 t15 ?_
     refine oA 29 t15 ?_
     refine oA 30 t15 ?_
     refine oA 31 (strA t23) ?_
     refine oCK hc (some 32) hF (fun q => p26 (p25 (p20 (p12 (p10 (Pf q)))))) fun r32 h_46 hF => ?_
     refine oA 27 r32 ?_
     refine oEa 33 hF fun t33 hF => ?_
     refine oEs 34 hF fun t34 hF => ?_
     refine oEb 35 hF fun t35 hF => ?_
     refine oC0 36 hF fun t36 hF => ?_
     refine oF 37 109 2 hF fun t37 hF => ?_
     refine oW 39 (.agg t33) hF fun h_56 hF => ?_
     refine oC0 38 hF fun t38 hF => ?_
     refine oF 39 109 3 hF fun t39 hF => ?_
     refine oW 9 (strA t34) hF fun h_60 hF => ?_
     refine oC0 40 hF fun t40 hF => ?_
     refine oF 41 109 1 hF fun t41 hF => ?_
     refine oW 4 (.bool t35) hF fun h_64 hF => ?_
     refine oV [(0, t0), (2, (newP h)), (3, (newP h_2)), (11, .int .i64 t11)] ?_
     exact gW _ (J43 _ hF)
    | false =>
     refine oU hF fun hF => ?_
     refine oZ ?_
     exact gW _ (J43 _ hF)
   | false =>
    refine oU hF fun hF => ?_
    refine W.exit (by kernel_rfl) ?_
    refine e24 (e20 ?_)
    refine s12 (by kernel_rfl) ?_
    exact gW _ (J13 _ hF)
 exact gW _ (L20 _ _ _ hF)
noncomputable def snap_Load (call : CallF) (_ : Nat) (t0 : AV) (h : AHeap) : R :=
 lett (newH h 39 [.int .i64 0, .int .i64 0]) fun h_2 =>
 callN (call 38 [t0] h_2) fun r9 h_6 =>
 obind (avInt .i64 r9) fun t9 =>
 lett ((t9 : Int) != 0) fun (t11 : Bool) =>
 ifB t11
 (
  obind (stRow h_6 2 ([.int .i64 0, .int .i64 0] : List AV) (newP h)) fun h_12 =>
  obind (ldRow h_12 2 (newP h)) fun w2 =>
  some (.ret (.tup [.agg w2, strA ([] : Bytes), .int .i64 t9]), h_12))
 (
  callK (call 39 [t0] h_6) fun r15 h_16 =>
  obind (avAgg r15) fun t15 =>
  lett (newH h_16 110 [.int .i64 0, .bool false, .int .i64 0, .int .i64 0, .str 0 0, .int .i64 0, .bool false, .int .i64 0, .int .i64 0, .str 0 0]) fun h_19 =>
  obind (stRow h_19 10 t15 (newP h_16)) fun h_21 =>
  obind (ldRow h_21 10 (newP h_16)) fun t16 =>
  callN (call 40 [.agg t16] h_21) fun r17 h_25 =>
  obind (avInt .i64 r17) fun t17 =>
  obind (idxA 2 5 (newP h_16) t17) fun t18 =>
  obind (ldRow h_25 5 t18) fun t19 =>
  lett (newH h_25 109 [.int .i64 0, .bool false, .int .i64 0, .int .i64 0, .str 0 0]) fun h_30 =>
  obind (stRow h_30 5 t19 (newP h_25)) fun h_32 =>
  obind (ldCell h_32 (AV.ptr (AHeap.next h_25) 1)) fun v21 =>
  obind (avBool v21) fun t21 =>
  lett (!t21) fun (t22 : Bool) =>
  ifB t22
  (
   obind (stRow h_32 2 ([.int .i64 0, .int .i64 0] : List AV) (newP h)) fun h_40 =>
   obind (ldRow h_40 2 (newP h)) fun w2_43 =>
   some (.ret (.tup [.agg w2_43, strA ([] : Bytes), .int .i64 4]), h_40))
  (
   obind (ldRow h_32 2 (AV.ptr (AHeap.next h_25) 2)) fun t25 =>
   obind (ldCell h_32 (AV.ptr (AHeap.next h_25) 4)) fun v27 =>
   obind (avStr v27) fun t27 =>
   obind (stRow h_32 2 t25 (newP h)) fun h_48 =>
   chk (reLoad Try.prog h_48 9 (AV.ptr (AHeap.next h_25) 4) (strA t27) && (true && true)) <|
   obind (ldRow h_48 2 (newP h)) fun w2_52 =>
   some (.ret (.tup [.agg w2_52, strA t27, .int .i64 0]), h_48)))
set_option maxHeartbeats 4000000 in
set_option maxRecDepth 20000 in
theorem snap_Load_ok {call : CallF} (hc : SaysAll Try.prog call) {n : Nat} {t0 : AV} {h : AHeap} {rR : ARes} {hR : AHeap} (hF : snap_Load call n t0 h = some (rR, hR)) : Says Try.prog 14 [t0] h rR hR := by
 unfold snap_Load at hF
 refine sO Try.func14 fun w0 m0 => ?_
 refine wW [(0, t0)] ?_
 refine oG fun n1 => W.r ?_
 refine oN 2 hF fun h_2 hF => ?_
 refine oA 3 (strA ([] : Bytes)) ?_
 refine oA 4 (.int .i64 0) ?_
 refine oV [(0, t0), (2, (newP h))] (n1 ?_)
 refine oH fun n4 q4 => ?_
 refine oG fun n5 => W.r ?_
 refine oA 8 t0 ?_
 refine oCi hc 9 hF fun t9 h_6 hF => ?_
 refine oA 5 (.int .i64 t9) ?_
 refine oV [(0, t0), (2, (newP h)), (5, .int .i64 t9)] (n5 ?_)
 refine oG fun n9 => W.r ?_
 refine oA 10 (.int .i64 t9) ?_
 refine oB 11 hF fun t11 hF => ?_
 refine oV [(0, t0), (2, (newP h)), (5, .int .i64 t9), (11, .bool t11)] (n9 ?_)
 cases t11 with
 | true =>
  refine oT hF fun hF => ?_
  refine oG fun n11 => W.r ?_
  refine oA 12 (.agg ([.int .i64 0, .int .i64 0] : List AV)) ?_
  refine oA 13 (.int .i64 t9) ?_
  refine oW 39 (.agg ([.int .i64 0, .int .i64 0] : List AV)) hF fun h_12 hF => ?_
  refine oA 3 (strA ([] : Bytes)) ?_
  refine oA 4 (.int .i64 t9) ?_
  refine oV [(2, (newP h)), (3, strA ([] : Bytes)), (4, .int .i64 t9)] (n11 (oY (q4 ?_)))
  obtain ⟨w2, e14, hF⟩ := obind_some hF
  exact lZ hF [.cell 2 39, .tmp 3, .tmp 4] [.agg w2, strA ([] : Bytes), .int .i64 t9] (rY e14 (rT (rT res_nil)))
 | false =>
  refine oU hF fun hF => ?_
  refine oZ (n4 ?_)
  refine oJ fun n15 p15 => W.r ?_
  refine oA 14 t0 ?_
  refine oCK hc (some 15) hF (fun q => p15 (Pf q)) fun r15 h_16 hF => ?_
  replace hF := obind_some hF; obtain ⟨t15, c18, hF⟩ := hF
  have c18 := avAgg_some c18
  subst c18
  refine oN 6 hF fun h_19 hF => ?_
  refine oW 110 (.agg t15) hF fun h_21 hF => ?_
  refine oV [(2, (newP h)), (6, (newP h_16))] (n15 ?_)
  refine oG fun n23 => W.r ?_
  refine oR 16 110 hF fun t16 hF => ?_
  refine oCi hc 17 hF fun t17 h_25 hF => ?_
  refine oQ 18 110 109 .i64 hF fun t18 hF => ?_
  refine oR 19 109 hF fun t19 hF => ?_
  refine oN 7 hF fun h_30 hF => ?_
  refine oW 109 (.agg t19) hF fun h_32 hF => ?_
  refine oV [(2, (newP h)), (7, (newP h_25))] (n23 ?_)
  refine oH fun n34 q34 => ?_
  refine oG fun n35 => W.r ?_
  refine oA 20 (AV.ptr (AHeap.next h_25) 1) ?_
  refine oLb 21 4 hF fun t21 hF => ?_
  refine oB 22 hF fun t22 hF => ?_
  refine oV [(2, (newP h)), (7, (newP h_25)), (22, .bool t22)] (n35 ?_)
  cases t22 with
  | true =>
   refine oT hF fun hF => ?_
   refine oG fun n39 => W.r ?_
   refine oA 23 (.agg ([.int .i64 0, .int .i64 0] : List AV)) ?_
   refine oW 39 (.agg ([.int .i64 0, .int .i64 0] : List AV)) hF fun h_40 hF => ?_
   refine oA 3 (strA ([] : Bytes)) ?_
   refine oA 4 (.int .i64 4) ?_
   refine oV [(2, (newP h)), (3, strA ([] : Bytes)), (4, .int .i64 4)] (n39 (oY (q34 ?_)))
   obtain ⟨w2_43, e42, hF⟩ := obind_some hF
   exact lZ hF [.cell 2 39, .tmp 3, .tmp 4] [.agg w2_43, strA ([] : Bytes), .int .i64 4] (rY e42 (rT (rT res_nil)))
  | false =>
   refine oU hF fun hF => ?_
   refine oZ (n34 ?_)
   refine oG fun n44 => ?_
   refine W.draw (by kernel_rfl) (hc.ok w0) (plan := [0, 1, 2, 3, 4, 5, 6]) (by kernel_rfl) (by kernel_rfl) (by kernel_rfl) ?_
   refine WD.a 0 (some 24) (AV.ptr (AHeap.next h_25) 2) h_32 ?_
   obtain ⟨t25, e45, hF⟩ := obind_some hF
   refine WD.b 1 (some 25) (.agg t25) h_32 (load_row (P := Try.prog) (h := h_32) (t := 39) (by kernel_rfl) (by kernel_rfl) e45) ?_
   refine WD.a 0 (some 26) (AV.ptr (AHeap.next h_25) 4) h_32 ?_
   replace hF := obind_some hF; obtain ⟨v27, e46, hF⟩ := hF
   replace hF := obind_some hF; obtain ⟨t27, c47, hF⟩ := hF
   have c47 := avStr_some c47
   subst c47
   refine WD.b 1 (some 27) (strA t27) h_32 (load_cell (P := Try.prog) (h := h_32) (t := 9) (by kernel_rfl) e46) ?_
   obtain ⟨h_48, e49, hF⟩ := obind_some hF
   obtain ⟨k50, hF⟩ := chk_some hF
   refine WD.eff (h' := h_48) (by kernel_rfl) (by kernel_rfl) (Eq.trans (by kernel_rfl) (store_row (P := Try.prog) (h := h_32) (t := 39) (v := (.agg t25)) (by kernel_rfl) (by kernel_rfl) e49)) (k := 2) (by kernel_rfl) (fun _ => (Eq.trans (by kernel_rfl) k50)) (by decide) ?_
   refine WD.a 0 (some 3) (strA t27) h_48 ?_
   refine WD.a 0 (some 4) (.int .i64 0) h_48 ?_
   refine WD.nil ?_
   refine gW [(2, (newP h)), (3, strA t27), (4, .int .i64 0)] (n44 (oY ?_))
   obtain ⟨w2_52, e51, hF⟩ := obind_some hF
   exact lZ hF [.cell 2 39, .tmp 3, .tmp 4] [.agg w2_52, strA t27, .int .i64 0] (rY e51 (rT (rT res_nil)))
noncomputable def snap_replace (call : CallF) (_ : Nat) (t0 : AV) (t1 : Int) (t2 : Bytes) (h : AHeap) : R :=
 callN (call 17 [t0] h) fun r10 h_4 =>
 callN (call 62 [r10, .int .i64 t1] h_4) fun r12 h_6 =>
 obind (avBool r12) fun t12 =>
 lett (fun  (h_10 : AHeap) =>
  callN (call 26 [t0, .int .i64 t1, strA t2] h_10) fun r22 h_13 =>
  obind (avInt .i64 r22) fun t22 =>
  lett ((t22 : Int) != 0) fun (t24 : Bool) =>
  ifB t24
  (
   some (.ret (.int .i64 t22), h_13))
  (
   callN (call 64 [t0, .int .i64 t1] h_13) fun r28 h_20 =>
   obind (avInt .i64 r28) fun t28 =>
   some (.ret (.int .i64 t28), h_20))) fun k9 =>
 ifB t12
 (
  callN (call 63 [t0, .int .i64 t1] h_6) fun r15 h_24 =>
  obind (avInt .i64 r15) fun t15 =>
  lett ((t15 : Int) != 0) fun (t17 : Bool) =>
  ifB t17
  (
   some (.ret (.int .i64 t15), h_24))
  (
   k9 h_24))
 (
  k9 h_6)
set_option maxHeartbeats 4000000 in
set_option maxRecDepth 20000 in
theorem snap_replace_ok {call : CallF} (hc : SaysAll Try.prog call) {n : Nat} {t0 : AV} {t1 : Int} {t2 : Bytes} {h : AHeap} {rR : ARes} {hR : AHeap} (hF : snap_replace call n t0 t1 t2 h = some (rR, hR)) : Says Try.prog 42 [t0, .int .i64 t1, strA t2] h rR hR := by
 unfold snap_replace at hF
 refine sO Try.func42 fun w0 m0 => ?_
 refine wW [(0, t0), (1, .int .i64 t1), (2, strA t2)] ?_
 refine oG fun n1 => W.r ?_
 refine oA 6 (.int .i64 0) ?_
 refine oV [(0, t0), (1, .int .i64 t1), (2, strA t2)] (n1 ?_)
 refine W.s (fun K2 n2 e2 q2 p2 => ?_)
 refine oG fun n3 => W.r ?_
 refine oA 9 t0 ?_
 refine oC hc (some 10) hF fun r10 h_4 hF => ?_
 refine oA 11 (.int .i64 t1) ?_
 refine oCb hc 12 hF fun t12 h_6 hF => ?_
 refine oV [(0, t0), (1, .int .i64 t1), (2, strA t2), (12, .bool t12)] (n3 ?_)
 obtain ⟨k9, e9, hF⟩ := lett_some hF
 have J9 : ∀  (h_10 : AHeap), k9 h_10 = some (rR, hR) → Go w0 m0 (Func.ntmps Try.f42) (K2 .normal) [(0, t0), (1, .int .i64 t1), (2, strA t2)] [] h_10 := by
  intro  h_10 hF
  rw [e9] at hF
  refine n2 ?_
  refine oH fun n11 q11 => ?_
  refine oG fun n12 => W.r ?_
  refine oA 19 t0 ?_
  refine oA 20 (.int .i64 t1) ?_
  refine oA 21 (strA t2) ?_
  refine oCi hc 22 hF fun t22 h_13 hF => ?_
  refine oA 8 (.int .i64 t22) ?_
  refine oV [(0, t0), (1, .int .i64 t1), (8, .int .i64 t22)] (n12 ?_)
  refine oG fun n16 => W.r ?_
  refine oA 23 (.int .i64 t22) ?_
  refine oB 24 hF fun t24 hF => ?_
  refine oV [(0, t0), (1, .int .i64 t1), (8, .int .i64 t22), (24, .bool t24)] (n16 ?_)
  cases t24 with
  | true =>
   refine oT hF fun hF => ?_
   refine oG fun n18 => W.r ?_
   refine oA 25 (.int .i64 t22) ?_
   refine oA 6 (.int .i64 t22) ?_
   refine oV [(6, .int .i64 t22)] (n18 (oY (q11 ?_)))
   exact lZ hF [.tmp 6] [.int .i64 t22] (rT res_nil)
  | false =>
   refine oU hF fun hF => ?_
   refine oZ (n11 ?_)
   refine oG fun n19 => W.r ?_
   refine oA 26 t0 ?_
   refine oA 27 (.int .i64 t1) ?_
   refine oCi hc 28 hF fun t28 h_20 hF => ?_
   refine oA 6 (.int .i64 t28) ?_
   refine oV [(6, .int .i64 t28)] (n19 (oY ?_))
   exact lZ hF [.tmp 6] [.int .i64 t28] (rT res_nil)
 cases t12 with
 | true =>
  refine oT hF fun hF => ?_
  refine oG fun n23 => W.r ?_
  refine oA 13 t0 ?_
  refine oA 14 (.int .i64 t1) ?_
  refine oCi hc 15 hF fun t15 h_24 hF => ?_
  refine oA 7 (.int .i64 t15) ?_
  refine oV [(0, t0), (1, .int .i64 t1), (2, strA t2), (7, .int .i64 t15)] (n23 ?_)
  refine oG fun n27 => W.r ?_
  refine oA 16 (.int .i64 t15) ?_
  refine oB 17 hF fun t17 hF => ?_
  refine oV [(0, t0), (1, .int .i64 t1), (2, strA t2), (7, .int .i64 t15), (17, .bool t17)] (n27 ?_)
  cases t17 with
  | true =>
   refine oT hF fun hF => ?_
   refine oG fun n29 => W.r ?_
   refine oA 18 (.int .i64 t15) ?_
   refine oA 6 (.int .i64 t15) ?_
   refine oV [(6, .int .i64 t15)] (n29 (oY (q2 ?_)))
   exact lZ hF [.tmp 6] [.int .i64 t15] (rT res_nil)
  | false =>
   refine oU hF fun hF => ?_
   refine oZ ?_
   exact gW _ (J9 _ hF)
 | false =>
  refine oU hF fun hF => ?_
  refine oZ ?_
  exact gW _ (J9 _ hF)
noncomputable def snap_Save (call : CallF) (_ : Nat) (t0 : AV) (t1 : List AV) (t2 : Bytes) (h : AHeap) : R :=
 outK (opBox h 39 (some (.agg t1))) fun v4 h_2 =>
 callN (call 38 [t0] h_2) fun r12 h_6 =>
 obind (avInt .i64 r12) fun t12 =>
 lett ((t12 : Int) != 0) fun (t14 : Bool) =>
 ifB t14
 (
  some (.ret (.int .i64 t12), h_6))
 (
  obind (ldRow h_6 2 v4) fun t16 =>
  callN (call 41 [.agg t16] h_6) fun r17 h_15 =>
  obind (avBool r17) fun t17 =>
  lett (!t17) fun (t18 : Bool) =>
  ifB t18
  (
   some (.ret (.int .i64 2), h_15))
  (
   lett (decide ((lenS t2) > 262144)) fun (t21 : Bool) =>
   ifB t21
   (
    some (.ret (.int .i64 3), h_15))
   (
    callK (call 39 [t0] h_15) fun r23 h_25 =>
    obind (avAgg r23) fun t23 =>
    lett (newH h_25 110 [.int .i64 0, .bool false, .int .i64 0, .int .i64 0, .str 0 0, .int .i64 0, .bool false, .int .i64 0, .int .i64 0, .str 0 0]) fun h_28 =>
    obind (stRow h_28 10 t23 (newP h_25)) fun h_30 =>
    obind (ldRow h_30 10 (newP h_25)) fun t24 =>
    callN (call 40 [.agg t24] h_30) fun r25 h_34 =>
    obind (avInt .i64 r25) fun t25 =>
    obind (idxA 2 5 (newP h_25) t25) fun t26 =>
    obind (ldRow h_34 5 t26) fun t27 =>
    lett (newH h_34 109 [.int .i64 0, .bool false, .int .i64 0, .int .i64 0, .str 0 0]) fun h_39 =>
    obind (stRow h_39 5 t27 (newP h_34)) fun h_41 =>
    obind (ldCell h_41 (AV.ptr (AHeap.next h_34) 1)) fun v29 =>
    obind (avBool v29) fun t29 =>
    lett (fun (t37 : Bool) (h_47 : AHeap) =>
     ifB t37
     (
      some (.ret (.int .i64 5), h_47))
     (
      obind (idxA 2 5 (newP h_25) 0) fun t38 =>
      obind (fldP 0 t38) fun t39 =>
      obind (ldCell h_47 t39) fun v40 =>
      obind (avInt .i64 v40) fun t40 =>
      obind (ldCell h_47 (AV.ptr (AHeap.next h_34) 1)) fun v42 =>
      obind (avBool v42) fun t42 =>
      lett (fun (t48 : Bool) (h_60 : AHeap) =>
       lett (fun (t10 : Int) (h_64 : AHeap) =>
        obind (ldRow h_64 2 v4) fun t54 =>
        callN (call 43 [.agg t54, strA t2] h_64) fun r56 h_67 =>
        obind (avStr r56) fun t56 =>
        callN (call 42 [t0, .int .i64 t10, strA t56] h_67) fun r57 h_70 =>
        obind (avInt .i64 r57) fun t57 =>
        some (.ret (.int .i64 t57), h_70)) fun k63 =>
       ifB t48
       (
        obind (idxA 2 5 (newP h_25) 1) fun t49 =>
        obind (fldP 0 t49) fun t50 =>
        obind (ldCell h_60 t50) fun v51 =>
        obind (avInt .i64 v51) fun t51 =>
        k63 t51 h_60)
       (
        k63 t40 h_60)) fun j48 =>
      ifB t42
      (
       obind (ldCell h_47 (AV.ptr (AHeap.next h_34) 0)) fun v45 =>
       obind (avInt .i64 v45) fun t45 =>
       lett ((t45 : Int) == t40) fun (t47 : Bool) =>
       j48 t47 h_47)
      (
       j48 false h_47))) fun j37 =>
    ifB t29
    (
     obind (fldP 0 v4) fun t31 =>
     obind (ldCell h_41 t31) fun v32 =>
     obind (avInt .i64 v32) fun t32 =>
     obind (ldCell h_41 (AV.ptr (AHeap.next h_34) 2)) fun v35 =>
     obind (avInt .i64 v35) fun t35 =>
     lett (decide (t32 ≤ t35)) fun (t36 : Bool) =>
     j37 t36 h_41)
    (
     j37 false h_41))))
set_option maxHeartbeats 4000000 in
set_option maxRecDepth 20000 in
theorem snap_Save_ok {call : CallF} (hc : SaysAll Try.prog call) {n : Nat} {t0 : AV} {t1 : List AV} {t2 : Bytes} {h : AHeap} {rR : ARes} {hR : AHeap} (hF : snap_Save call n t0 t1 t2 h = some (rR, hR)) : Says Try.prog 15 [t0, .agg t1, strA t2] h rR hR := by
 unfold snap_Save at hF
 refine sO Try.func15 fun w0 m0 => ?_
 refine wW [(0, t0), (1, .agg t1), (2, strA t2)] ?_
 refine oG fun n1 => W.r ?_
 refine oK 4 hF fun v4 h_2 hF => ?_
 refine oA 6 (.int .i64 0) ?_
 refine oV [(0, t0), (2, strA t2), (4, v4)] (n1 ?_)
 refine oH fun n4 q4 => ?_
 refine oG fun n5 => W.r ?_
 refine oA 11 t0 ?_
 refine oCi hc 12 hF fun t12 h_6 hF => ?_
 refine oA 7 (.int .i64 t12) ?_
 refine oV [(0, t0), (2, strA t2), (4, v4), (7, .int .i64 t12)] (n5 ?_)
 refine oG fun n9 => W.r ?_
 refine oA 13 (.int .i64 t12) ?_
 refine oB 14 hF fun t14 hF => ?_
 refine oV [(0, t0), (2, strA t2), (4, v4), (7, .int .i64 t12), (14, .bool t14)] (n9 ?_)
 cases t14 with
 | true =>
  refine oT hF fun hF => ?_
  refine oG fun n11 => W.r ?_
  refine oA 15 (.int .i64 t12) ?_
  refine oA 6 (.int .i64 t12) ?_
  refine oV [(6, .int .i64 t12)] (n11 (oY (q4 ?_)))
  exact lZ hF [.tmp 6] [.int .i64 t12] (rT res_nil)
 | false =>
  refine oU hF fun hF => ?_
  refine oZ (n4 ?_)
  refine oH fun n12 q12 => ?_
  refine oG fun n13 => W.r ?_
  refine oR 16 39 hF fun t16 hF => ?_
  refine oCb hc 17 hF fun t17 h_15 hF => ?_
  refine oB 18 hF fun t18 hF => ?_
  refine oV [(0, t0), (2, strA t2), (4, v4), (18, .bool t18)] (n13 ?_)
  cases t18 with
  | true =>
   refine oT hF fun hF => ?_
   refine oG fun n19 => W.r ?_
   refine oA 6 (.int .i64 2) ?_
   refine oV [(6, .int .i64 2)] (n19 (oY (q12 ?_)))
   exact lZ hF [.tmp 6] [.int .i64 2] (rT res_nil)
  | false =>
   refine oU hF fun hF => ?_
   refine oZ (n12 ?_)
   refine oH fun n20 q20 => ?_
   refine oG fun n21 => W.r ?_
   refine oA 19 (strA t2) ?_
   refine oA 20 (.int .i64 (lenS t2)) ?_
   refine oB 21 hF fun t21 hF => ?_
   refine oV [(0, t0), (2, strA t2), (4, v4), (21, .bool t21)] (n21 ?_)
   cases t21 with
   | true =>
    refine oT hF fun hF => ?_
    refine oG fun n23 => W.r ?_
    refine oA 6 (.int .i64 3) ?_
    refine oV [(6, .int .i64 3)] (n23 (oY (q20 ?_)))
    exact lZ hF [.tmp 6] [.int .i64 3] (rT res_nil)
   | false =>
    refine oU hF fun hF => ?_
    refine oZ (n20 ?_)
    refine oJ fun n24 p24 => W.r ?_
    refine oA 22 t0 ?_
    refine oCK hc (some 23) hF (fun q => p24 (Pf q)) fun r23 h_25 hF => ?_
    replace hF := obind_some hF; obtain ⟨t23, c27, hF⟩ := hF
    have c27 := avAgg_some c27
    subst c27
    refine oN 8 hF fun h_28 hF => ?_
    refine oW 110 (.agg t23) hF fun h_30 hF => ?_
    refine oV [(0, t0), (2, strA t2), (4, v4), (8, (newP h_25))] (n24 ?_)
    refine oG fun n32 => W.r ?_
    refine oR 24 110 hF fun t24 hF => ?_
    refine oCi hc 25 hF fun t25 h_34 hF => ?_
    refine oQ 26 110 109 .i64 hF fun t26 hF => ?_
    refine oR 27 109 hF fun t27 hF => ?_
    refine oN 9 hF fun h_39 hF => ?_
    refine oW 109 (.agg t27) hF fun h_41 hF => ?_
    refine oV [(0, t0), (2, strA t2), (4, v4), (8, (newP h_25)), (9, (newP h_34))] (n32 ?_)
    refine oH fun n43 q43 => ?_
    refine W.s (fun K44 n44 e44 q44 p44 => ?_)
    refine W.r ?_
    refine oA 28 (AV.ptr (AHeap.next h_34) 1) ?_
    refine oLb 29 4 hF fun t29 hF => ?_
    refine oA 30 (.bool t29) ?_
    obtain ⟨j37, e48, hF⟩ := lett_some hF
    have J49 : ∀ (t37 : Bool) (h_47 : AHeap), j37 t37 h_47 = some (rR, hR) → WL Try.prog w0 m0 (Func.ntmps Try.f15) (Code.ops (Code.p1 (Code.p1 (Code.p2 (Code.p2 (Code.p2 (Code.p2 (Code.p2 (Code.p2 (codeOf Try.f15)))))))))) 10 K44 [(0, t0), (2, strA t2), (4, v4), (8, (newP h_25)), (9, (newP h_34)), (37, .bool t37)] [] h_47 := by
     intro t37 h_47 hF
     rw [e48] at hF
     refine oV [(0, t0), (2, strA t2), (4, v4), (8, (newP h_25)), (9, (newP h_34)), (37, .bool t37)] (n44 ?_)
     cases t37 with
     | true =>
      refine oT hF fun hF => ?_
      refine oG fun n50 => W.r ?_
      refine oA 6 (.int .i64 5) ?_
      refine oV [(6, .int .i64 5)] (n50 (oY (q43 ?_)))
      exact lZ hF [.tmp 6] [.int .i64 5] (rT res_nil)
     | false =>
      refine oU hF fun hF => ?_
      refine oZ (n43 ?_)
      refine oG fun n51 => W.r ?_
      refine oQ 38 110 109 .i64 hF fun t38 hF => ?_
      refine oF 39 109 0 hF fun t39 hF => ?_
      refine oLi 40 3 hF fun t40 hF => ?_
      refine oA 10 (.int .i64 t40) ?_
      refine oV [(0, t0), (2, strA t2), (4, v4), (8, (newP h_25)), (9, (newP h_34)), (10, .int .i64 t40)] (n51 ?_)
      refine W.s (fun K56 n56 e56 q56 p56 => ?_)
      refine W.s (fun K57 n57 e57 q57 p57 => ?_)
      refine W.r ?_
      refine oA 41 (AV.ptr (AHeap.next h_34) 1) ?_
      refine oLb 42 4 hF fun t42 hF => ?_
      refine oA 43 (.bool t42) ?_
      obtain ⟨j48, e61, hF⟩ := lett_some hF
      have J62 : ∀ (t48 : Bool) (h_60 : AHeap), j48 t48 h_60 = some (rR, hR) → WL Try.prog w0 m0 (Func.ntmps Try.f15) (Code.ops (Code.p1 (Code.p1 (Code.p2 (Code.p2 (Code.p2 (Code.p2 (Code.p2 (Code.p2 (Code.p2 (Code.p2 (codeOf Try.f15)))))))))))) 8 K57 [(0, t0), (2, strA t2), (4, v4), (8, (newP h_25)), (10, .int .i64 t40), (48, .bool t48)] [] h_60 := by
       intro t48 h_60 hF
       rw [e61] at hF
       refine oV [(0, t0), (2, strA t2), (4, v4), (8, (newP h_25)), (10, .int .i64 t40), (48, .bool t48)] (n57 ?_)
       obtain ⟨k63, e63, hF⟩ := lett_some hF
       have J63 : ∀ (t10 : Int) (h_64 : AHeap), k63 t10 h_64 = some (rR, hR) → Go w0 m0 (Func.ntmps Try.f15) (K56 .normal) [(0, t0), (2, strA t2), (4, v4), (10, .int .i64 t10)] [] h_64 := by
        intro t10 h_64 hF
        rw [e63] at hF
        refine n56 ?_
        refine oG fun n65 => W.r ?_
        refine oA 52 t0 ?_
        refine oA 53 (.int .i64 t10) ?_
        refine oR 54 39 hF fun t54 hF => ?_
        refine oA 55 (strA t2) ?_
        refine oCs hc 56 hF fun t56 h_67 hF => ?_
        refine oCi hc 57 hF fun t57 h_70 hF => ?_
        refine oA 6 (.int .i64 t57) ?_
        refine oV [(6, .int .i64 t57)] (n65 (oY ?_))
        exact lZ hF [.tmp 6] [.int .i64 t57] (rT res_nil)
       cases t48 with
       | true =>
        refine oT hF fun hF => ?_
        refine W.r ?_
        refine oQ 49 110 109 .i64 hF fun t49 hF => ?_
        refine oF 50 109 0 hF fun t50 hF => ?_
        refine oLi 51 3 hF fun t51 hF => ?_
        refine oA 10 (.int .i64 t51) ?_
        refine oV [(0, t0), (2, strA t2), (4, v4), (10, .int .i64 t51)] ?_
        exact gW _ (J63 _ _ hF)
       | false =>
        refine oU hF fun hF => ?_
        refine oZ ?_
        exact gW _ (J63 _ _ hF)
      cases t42 with
      | true =>
       replace hF := ifB_t hF
       refine oA 44 (AV.ptr (AHeap.next h_34) 0) ?_
       refine oLi 45 3 hF fun t45 hF => ?_
       refine oA 46 (.int .i64 t40) ?_
       refine oB 47 hF fun t47 hF => ?_
       refine oA 48 (.bool t47) ?_
       exact lW _ (J62 _ _ hF)
      | false =>
       replace hF := ifB_f hF
       refine WL.o (some 44) ?_
       refine WL.o (some 45) ?_
       refine WL.o (some 46) ?_
       refine WL.o (some 47) ?_
       refine oA 48 (.bool false) ?_
       exact lW _ (J62 _ _ hF)
    cases t29 with
    | true =>
     replace hF := ifB_t hF
     refine oF 31 39 0 hF fun t31 hF => ?_
     refine oLi 32 3 hF fun t32 hF => ?_
     refine oA 33 (AV.ptr (AHeap.next h_34) 2) ?_
     refine oA 34 (AV.ptr (AHeap.next h_34) 2) ?_
     refine oLi 35 3 hF fun t35 hF => ?_
     refine oB 36 hF fun t36 hF => ?_
     refine oA 37 (.bool t36) ?_
     exact lW _ (J49 _ _ hF)
    | false =>
     replace hF := ifB_f hF
     refine WL.o (some 31) ?_
     refine WL.o (some 32) ?_
     refine WL.o (some 33) ?_
     refine WL.o (some 34) ?_
     refine WL.o (some 35) ?_
     refine WL.o (some 36) ?_
     refine oA 37 (.bool false) ?_
     exact lW _ (J49 _ _ hF)
noncomputable def law19_works (call : CallF) (_ : Nat)  (h : AHeap) : R :=
 callN (call 13 [] h) fun r9 h_3 =>
 callK (call 15 [r9, .agg ([.int .i64 8, .int .i64 1] : List AV), strA ([97, 98, 99] : Bytes)] h_3) fun r12 h_7 =>
 obind (avInt .i64 r12) fun t12 =>
 lett ((t12 : Int) != 0) fun (t13 : Bool) =>
 lett (fun (t18 : Bool) (h_11 : AHeap) =>
  ifB t18
  (
   some (.ret (.bool false), h_11))
  (
   callK (call 14 [r9] h_11) fun r21 h_16 =>
   obind (extT 0 r21) fun v22 =>
   obind (avAgg v22) fun t22 =>
   obind (extT 1 r21) fun v23 =>
   obind (avStr v23) fun t23 =>
   obind (extT 2 r21) fun v24 =>
   obind (avInt .i64 v24) fun t24 =>
   lett (newH h_16 39 [.int .i64 0, .int .i64 0]) fun h_24 =>
   obind (stRow h_24 2 t22 (newP h_16)) fun h_26 =>
   callN (call 11 [] h_26) fun r25 h_29 =>
   outK (opBin Try.prog h_29 .eql 27 true (some r25) (some AV.nilp)) fun v27 h_33 =>
   obind (avBool v27) fun t27 =>
   ifB t27
   (
    some (.ret (.bool false), h_33))
   (
    callN (call 12 [r25, .agg ([.int .u8 0, .int .i64 0, .int .i64 0, .int .i64 0, .int .i64 8, .int .i64 0, .int .i64 0, .int .i64 0, .bool false, .nsl, .int .i64 0, .int .i64 2, strA ([97] : Bytes), .int .i64 0, .int .i64 0, .int .i64 0, .int .i64 0, .int .i64 0, .int .i64 0, .int .u8 0, .int .i64 0, .int .i64 0] : List AV)] h_33) fun r31 h_38 =>
    obind (extT 0 r31) fun v32 =>
    obind (avInt .i64 v32) fun t32 =>
    obind (extT 1 r31) fun v33 =>
    obind (avStr v33) fun _ =>
    obind (extT 2 r31) fun v34 =>
    obind (avBool v34) fun t34 =>
    lett ((t24 : Int) == 0) fun (t36 : Bool) =>
    lett (fun (t41 : Bool) (h_48 : AHeap) =>
     lett (fun (t45 : Bool) (h_51 : AHeap) =>
      lett (fun (t49 : Bool) (h_54 : AHeap) =>
       lett (fun (t53 : Bool) (h_57 : AHeap) =>
        some (.ret (.bool t53), h_57)) fun j53 =>
       ifB t49
       (
        lett (!t34) fun (t52 : Bool) =>
        j53 t52 h_54)
       (
        j53 false h_54)) fun j49 =>
      ifB t45
      (
       lett ((t32 : Int) == 1) fun (t48 : Bool) =>
       j49 t48 h_51)
      (
       j49 false h_51)) fun j45 =>
     ifB t41
     (
      lett (eqS t23 ([97, 98, 99] : Bytes)) fun (t44 : Bool) =>
      j45 t44 h_48)
     (
      j45 false h_48)) fun j41 =>
    ifB t36
    (
     obind (ldRow h_38 2 (newP h_16)) fun t38 =>
     obind (eqOther Try.prog 39 (.agg t38) (.agg ([.int .i64 8, .int .i64 1] : List AV))) fun t40 =>
     j41 t40 h_38)
    (
     j41 false h_38)))) fun j18 =>
 ifB t13
 (
  j18 true h_7)
 (
  callN (call 25 [r9, AV.nsl, .int .i64 0] h_7) fun r16 h_66 =>
  obind (avInt .i64 r16) fun t16 =>
  lett ((t16 : Int) != 0) fun (t17 : Bool) =>
  j18 t17 h_66)
set_option maxHeartbeats 4000000 in
set_option maxRecDepth 20000 in
theorem law19_works_ok {call : CallF} (hc : SaysAll Try.prog call) {n : Nat}  {h : AHeap} {rR : ARes} {hR : AHeap} (hF : law19_works call n  h = some (rR, hR)) : Says Try.prog 8 [] h rR hR := by
 unfold law19_works at hF
 refine sO Try.func8 fun w0 m0 => ?_
 refine wW [] ?_
 refine oG fun n1 => W.r ?_
 refine oA 0 (.bool false) ?_
 refine oV [] (n1 ?_)
 refine oG fun n2 => W.r ?_
 refine oC hc (some 9) hF fun r9 h_3 hF => ?_
 refine oA 1 r9 ?_
 refine oV [(1, r9)] (n2 ?_)
 refine W.s (fun K5 n5 e5 q5 p5 => ?_)
 refine W.s (fun K6 n6 e6 q6 p6 => ?_)
 refine W.r ?_
 refine oA 10 r9 ?_
 refine oA 11 (.agg ([.int .i64 8, .int .i64 1] : List AV)) ?_
 refine oCK hc (some 12) hF (fun q => p6 (p5 (Pf q))) fun r12 h_7 hF => ?_
 replace hF := obind_some hF; obtain ⟨t12, c9, hF⟩ := hF
 have c9 := avInt_some c9
 subst c9
 refine oB 13 hF fun t13 hF => ?_
 refine oA 14 (.bool t13) ?_
 obtain ⟨j18, e12, hF⟩ := lett_some hF
 have J13 : ∀ (t18 : Bool) (h_11 : AHeap), j18 t18 h_11 = some (rR, hR) → WL Try.prog w0 m0 (Func.ntmps Try.f8) (Code.ops (Code.p1 (Code.p1 (Code.p2 (Code.p2 (codeOf Try.f8)))))) 9 K6 [(1, r9), (18, .bool t18)] [] h_11 := by
  intro t18 h_11 hF
  rw [e12] at hF
  refine oV [(1, r9), (18, .bool t18)] (n6 ?_)
  cases t18 with
  | true =>
   refine oT hF fun hF => ?_
   refine oG fun n14 => W.r ?_
   refine oA 0 (.bool false) ?_
   refine oV [(0, .bool false)] (n14 (oY (q5 ?_)))
   exact lZ hF [.tmp 0] [.bool false] (rT res_nil)
  | false =>
   refine oU hF fun hF => ?_
   refine oZ (n5 ?_)
   refine oJ fun n15 p15 => W.r ?_
   refine oA 20 r9 ?_
   refine oCK hc (some 21) hF (fun q => p15 (Pf q)) fun r21 h_16 hF => ?_
   refine oA 19 r21 ?_
   refine oEa 22 hF fun t22 hF => ?_
   refine oEs 23 hF fun t23 hF => ?_
   refine oEi 24 hF fun t24 hF => ?_
   refine oN 2 hF fun h_24 hF => ?_
   refine oW 39 (.agg t22) hF fun h_26 hF => ?_
   refine oA 3 (strA t23) ?_
   refine oA 4 (.int .i64 t24) ?_
   refine oV [(2, (newP h_16)), (3, strA t23), (4, .int .i64 t24)] (n15 ?_)
   refine oG fun n28 => W.r ?_
   refine oC hc (some 25) hF fun r25 h_29 hF => ?_
   refine oA 5 r25 ?_
   refine oV [(2, (newP h_16)), (3, strA t23), (4, .int .i64 t24), (5, r25)] (n28 ?_)
   refine oH fun n31 q31 => ?_
   refine oG fun n32 => W.r ?_
   refine oA 26 r25 ?_
   replace hF := outK_some hF; obtain ⟨v27, h_33, e34, hF⟩ := hF
   replace hF := obind_some hF; obtain ⟨t27, c35, hF⟩ := hF
   have c35 := avBool_some c35
   subst c35
   refine WL.b (some 27) (.bool t27) h_33 e34 ?_
   refine oV [(2, (newP h_16)), (3, strA t23), (4, .int .i64 t24), (5, r25), (27, .bool t27)] (n32 ?_)
   cases t27 with
   | true =>
    refine oT hF fun hF => ?_
    refine oG fun n36 => W.r ?_
    refine oA 0 (.bool false) ?_
    refine oV [(0, .bool false)] (n36 (oY (q31 ?_)))
    exact lZ hF [.tmp 0] [.bool false] (rT res_nil)
   | false =>
    refine oU hF fun hF => ?_
    refine oZ (n31 ?_)
    refine oG fun n37 => W.r ?_
    refine oA 29 r25 ?_
    refine oA 30 (.agg ([.int .u8 0, .int .i64 0, .int .i64 0, .int .i64 0, .int .i64 8, .int .i64 0, .int .i64 0, .int .i64 0, .bool false, .nsl, .int .i64 0, .int .i64 2, strA ([97] : Bytes), .int .i64 0, .int .i64 0, .int .i64 0, .int .i64 0, .int .i64 0, .int .i64 0, .int .u8 0, .int .i64 0, .int .i64 0] : List AV)) ?_
    refine oC hc (some 31) hF fun r31 h_38 hF => ?_
    refine oA 28 r31 ?_
    refine oEi 32 hF fun t32 hF => ?_
    refine oEs 33 hF fun t33 hF => ?_
    refine oEb 34 hF fun t34 hF => ?_
    refine oA 6 (.int .i64 t32) ?_
    refine oA 7 (strA t33) ?_
    refine oA 8 (.bool t34) ?_
    refine oV [(2, (newP h_16)), (3, strA t23), (4, .int .i64 t24), (6, .int .i64 t32), (8, .bool t34)] (n37 ?_)
    refine W.s (fun K46 n46 e46 q46 p46 => ?_)
    refine W.r ?_
    refine oA 35 (.int .i64 t24) ?_
    refine oB 36 hF fun t36 hF => ?_
    refine oA 37 (.bool t36) ?_
    obtain ⟨j41, e49, hF⟩ := lett_some hF
    have J50 : ∀ (t41 : Bool) (h_48 : AHeap), j41 t41 h_48 = some (rR, hR) → WL Try.prog w0 m0 (Func.ntmps Try.f8) (Code.ops (Code.p1 (Code.p2 (Code.p2 (Code.p2 (Code.p2 (Code.p2 (Code.p2 (Code.p2 (codeOf Try.f8)))))))))) 7 K46 [(3, strA t23), (6, .int .i64 t32), (8, .bool t34), (41, .bool t41)] [] h_48 := by
     intro t41 h_48 hF
     rw [e49] at hF
     refine oA 42 (.bool t41) ?_
     obtain ⟨j45, e52, hF⟩ := lett_some hF
     have J53 : ∀ (t45 : Bool) (h_51 : AHeap), j45 t45 h_51 = some (rR, hR) → WL Try.prog w0 m0 (Func.ntmps Try.f8) (Code.ops (Code.p1 (Code.p2 (Code.p2 (Code.p2 (Code.p2 (Code.p2 (Code.p2 (Code.p2 (codeOf Try.f8)))))))))) 11 K46 [(6, .int .i64 t32), (8, .bool t34), (45, .bool t45)] [] h_51 := by
      intro t45 h_51 hF
      rw [e52] at hF
      refine oA 46 (.bool t45) ?_
      obtain ⟨j49, e55, hF⟩ := lett_some hF
      have J56 : ∀ (t49 : Bool) (h_54 : AHeap), j49 t49 h_54 = some (rR, hR) → WL Try.prog w0 m0 (Func.ntmps Try.f8) (Code.ops (Code.p1 (Code.p2 (Code.p2 (Code.p2 (Code.p2 (Code.p2 (Code.p2 (Code.p2 (codeOf Try.f8)))))))))) 15 K46 [(8, .bool t34), (49, .bool t49)] [] h_54 := by
       intro t49 h_54 hF
       rw [e55] at hF
       refine oA 50 (.bool t49) ?_
       obtain ⟨j53, e58, hF⟩ := lett_some hF
       have J59 : ∀ (t53 : Bool) (h_57 : AHeap), j53 t53 h_57 = some (rR, hR) → WL Try.prog w0 m0 (Func.ntmps Try.f8) (Code.ops (Code.p1 (Code.p2 (Code.p2 (Code.p2 (Code.p2 (Code.p2 (Code.p2 (Code.p2 (codeOf Try.f8)))))))))) 19 K46 [(53, .bool t53)] [] h_57 := by
        intro t53 h_57 hF
        rw [e58] at hF
        refine oA 0 (.bool t53) ?_
        refine oV [(0, .bool t53)] (n46 (oY ?_))
        exact lZ hF [.tmp 0] [.bool t53] (rT res_nil)
       cases t49 with
       | true =>
        replace hF := ifB_t hF
        refine oA 51 (.bool t34) ?_
        refine oB 52 hF fun t52 hF => ?_
        refine oA 53 (.bool t52) ?_
        exact lW _ (J59 _ _ hF)
       | false =>
        replace hF := ifB_f hF
        refine WL.o (some 51) ?_
        refine WL.o (some 52) ?_
        refine oA 53 (.bool false) ?_
        exact lW _ (J59 _ _ hF)
      cases t45 with
      | true =>
       replace hF := ifB_t hF
       refine oA 47 (.int .i64 t32) ?_
       refine oB 48 hF fun t48 hF => ?_
       refine oA 49 (.bool t48) ?_
       exact lW _ (J56 _ _ hF)
      | false =>
       replace hF := ifB_f hF
       refine WL.o (some 47) ?_
       refine WL.o (some 48) ?_
       refine oA 49 (.bool false) ?_
       exact lW _ (J56 _ _ hF)
     cases t41 with
     | true =>
      replace hF := ifB_t hF
      refine oA 43 (strA t23) ?_
      refine oB 44 hF fun t44 hF => ?_
      refine oA 45 (.bool t44) ?_
      exact lW _ (J53 _ _ hF)
     | false =>
      replace hF := ifB_f hF
      refine WL.o (some 43) ?_
      refine WL.o (some 44) ?_
      refine oA 45 (.bool false) ?_
      exact lW _ (J53 _ _ hF)
    cases t36 with
    | true =>
     replace hF := ifB_t hF
     refine oR 38 39 hF fun t38 hF => ?_
     refine oA 39 (.agg ([.int .i64 8, .int .i64 1] : List AV)) ?_
     obtain ⟨t40, e64, hF⟩ := obind_some hF
     refine WL.b (some 40) (.bool t40) h_38 (eq_other (P := Try.prog) (h := h_38) (t := 39) (lit := false) (by kernel_rfl) e64) ?_
     refine oA 41 (.bool t40) ?_
     exact lW _ (J50 _ _ hF)
    | false =>
     replace hF := ifB_f hF
     refine WL.o (some 38) ?_
     refine WL.o (some 39) ?_
     refine WL.o (some 40) ?_
     refine oA 41 (.bool false) ?_
     exact lW _ (J50 _ _ hF)
 cases t13 with
 | true =>
  replace hF := ifB_t hF
  refine WL.o (some 15) ?_
  refine WL.o (some 16) ?_
  refine WL.o (some 17) ?_
  refine oA 18 (.bool true) ?_
  exact lW _ (J13 _ _ hF)
 | false =>
  replace hF := ifB_f hF
  refine oA 15 r9 ?_
  refine oCi hc 16 hF fun t16 h_66 hF => ?_
  refine oB 17 hF fun t17 hF => ?_
  refine oA 18 (.bool t17) ?_
  exact lW _ (J13 _ _ hF)
noncomputable def wLS (n : Nat) : List LSite := [frame_Scan_R0 n]
theorem wLS_ok (n : Nat) : ∀ s ∈ wLS n, s.ok Try.prog := by
 intro s hs
 unfold wLS at hs
 rcases List.mem_cons.1 hs with rfl | hs
 ·exact frame_Scan_R0_ok n
 cases hs
theorem wLS_frame_Scan_R0 (n : Nat) (st : LoopState) (j : AJump) (t : T AV) (D : Nat) : lsite (wLS n) ⟨st, j, t, (frame_Scan_R0 n).N, Code.rgp (frame_Scan_R0 n).c, Code.r1 (frame_Scan_R0 n).c, Code.r2 (frame_Scan_R0 n).c, D⟩ = some (frame_Scan_R0 n) := lsite_hit rfl rfl rfl
noncomputable def wLT (n : Nat) (both : BothF) : List (FuncId × FnT) := [(92, frame_All_1_fn both n), (77, frame_Scan_fn both n), (61, fn1 Ds (snap_read (both false) n)), (39, fn1 Dv (snap_look (both false) n)), (14, fn1 Dv (snap_Load (both false) n)), (42, fn3 Dv (Di .i64) Ds (snap_replace (both false) n)), (15, fn3 Dv Da Ds (snap_Save (both false) n)), (8, fn0 (law19_works (both false) n))]
theorem wLT_ok (n : Nat) (both : BothF) (hc : BothAll Try.prog both) : SaysAll Try.prog (callOf (wLT n both)) := callOf_cons (frame_All_1_holds hc n) (callOf_cons (frame_Scan_holds hc n) (callOf_cons (fn1_holds Ds (snap_read_ok hc.says)) (callOf_cons (fn1_holds Dv (snap_look_ok hc.says)) (callOf_cons (fn1_holds Dv (snap_Load_ok hc.says)) (callOf_cons (fn3_holds Dv (Di .i64) Ds (snap_replace_ok hc.says)) (callOf_cons (fn3_holds Dv Da Ds (snap_Save_ok hc.says)) (callOf_cons (fn0_holds (law19_works_ok hc.says)) (callOf_nil))))))))
noncomputable def wL (n D d : Nat) : BothF := worldL (wLS n) (wLT n) (world n D) d
theorem wL_ok (n D d : Nat) : BothAll Try.prog (wL n D d) := worldL_ok (wLS_ok n) (wLT_ok n) (world_ok n D) d
theorem wL_r (n D d b : Nat) (args : List AV) (h : AHeap) : wL n D (d + 1) true b args h = roundL (wLS n) (wL n D d) b args h := rfl
theorem wL_b (f : FuncId) {n D d : Nat} {args : List AV} {h : AHeap} (hf : ([92, 77, 61, 39, 14, 42, 15, 8].all fun i => !Nat.beq i f) = true := by kernel_rfl) : wL n D (d + 1) false f args h = world n D f args h := worldL_base (callOf_none _ _ _ hf)
theorem wL_frame_All_1 (n D d : Nat) (t0 : AV) (t1 : AV) {h : AHeap} {x : ARes × AHeap} (e : frame_All_1 (wL n D d) n t0 t1 h = some x) : wL n D (d + 1) false 92 [t0, t1] h = some x :=
 worldL_top (Eq.trans (b := frame_All_1_fn (wL n D d) n [t0, t1] h) (by kernel_rfl) ((frame_All_1_fn_eq (wL n D d) n t0 t1 h).trans e))
theorem wL_frame_Scan (n D d : Nat) (t0 : Bytes) {h : AHeap} {x : ARes × AHeap} (e : frame_Scan (wL n D d) n t0 h = some x) : wL n D (d + 1) false 77 [strA t0] h = some x :=
 worldL_top (Eq.trans (b := frame_Scan_fn (wL n D d) n [strA t0] h) (by kernel_rfl) ((frame_Scan_fn_eq (wL n D d) n t0 h).trans e))
theorem wL_snap_read (n D d : Nat) (t0 : Bytes) {h : AHeap} {x : ARes × AHeap} (e : snap_read ((wL n D d) false) n t0 h = some x) : wL n D (d + 1) false 61 [strA t0] h = some x :=
 worldL_top (Eq.trans (b := fn1 Ds (snap_read ((wL n D d) false) n) [strA t0] h) (by kernel_rfl) ((fn1_eq Ds _ t0 h).trans e))
theorem wL_snap_look (n D d : Nat) (t0 : AV) {h : AHeap} {x : ARes × AHeap} (e : snap_look ((wL n D d) false) n t0 h = some x) : wL n D (d + 1) false 39 [t0] h = some x :=
 worldL_top (Eq.trans (b := fn1 Dv (snap_look ((wL n D d) false) n) [t0] h) (by kernel_rfl) ((fn1_eq Dv _ t0 h).trans e))
theorem wL_snap_Load (n D d : Nat) (t0 : AV) {h : AHeap} {x : ARes × AHeap} (e : snap_Load ((wL n D d) false) n t0 h = some x) : wL n D (d + 1) false 14 [t0] h = some x :=
 worldL_top (Eq.trans (b := fn1 Dv (snap_Load ((wL n D d) false) n) [t0] h) (by kernel_rfl) ((fn1_eq Dv _ t0 h).trans e))
theorem wL_snap_replace (n D d : Nat) (t0 : AV) (t1 : Int) (t2 : Bytes) {h : AHeap} {x : ARes × AHeap} (e : snap_replace ((wL n D d) false) n t0 t1 t2 h = some x) : wL n D (d + 1) false 42 [t0, .int .i64 t1, strA t2] h = some x :=
 worldL_top (Eq.trans (b := fn3 Dv (Di .i64) Ds (snap_replace ((wL n D d) false) n) [t0, .int .i64 t1, strA t2] h) (by kernel_rfl) ((fn3_eq Dv (Di .i64) Ds _ t0 t1 t2 h).trans e))
theorem wL_snap_Save (n D d : Nat) (t0 : AV) (t1 : List AV) (t2 : Bytes) {h : AHeap} {x : ARes × AHeap} (e : snap_Save ((wL n D d) false) n t0 t1 t2 h = some x) : wL n D (d + 1) false 15 [t0, .agg t1, strA t2] h = some x :=
 worldL_top (Eq.trans (b := fn3 Dv Da Ds (snap_Save ((wL n D d) false) n) [t0, .agg t1, strA t2] h) (by kernel_rfl) ((fn3_eq Dv Da Ds _ t0 t1 t2 h).trans e))
theorem wL_law19_works (n D d : Nat)  {h : AHeap} {x : ARes × AHeap} (e : law19_works ((wL n D d) false) n  h = some x) : wL n D (d + 1) false 8 [] h = some x :=
 worldL_top (Eq.trans (b := fn0 (law19_works ((wL n D d) false) n) [] h) (by kernel_rfl) ((fn0_eq  _  h).trans e))
end Go.Proofs.Ytpnccmlajhhpdaa
namespace Go.Proofs.Ytpnccmlajhhpdaa.Abs
noncomputable section
open Go.RowKit
def BuB (U8 : TypeId) (h : AHeap) (b c : Nat) (buf : AV) (l : Bytes) : Prop :=
 (buf = .nsl ∧ l = [] ∧ c = b) ∨ (buf = .sl c 0 l.length 1 ∧ l ≠ [] ∧ c ≠ b ∧ c < h.next ∧ RowH h c U8 (bytesC l))
def BldR (TB U8 : TypeId) (h : AHeap) (b c : Nat) (l : Bytes) : Prop :=
 ∃ a buf, RowH h b TB [a, buf] ∧ b < h.next ∧ (a = .nilp ∨ a = .ptr b 0) ∧ BuB U8 h b c buf l
section
variable {P : Program} {TB U8 : TypeId} {h h' : AHeap} {b c : Nat} {buf : AV} {l : Bytes} {S : List Nat}
theorem BuB.one (k : BuB U8 h b c buf l) : buf.one = true ∧ AV.cells buf = [buf] ∧ lenL buf = some (l.length : Int) := by
 rcases k with ⟨rfl, rfl, _⟩ | ⟨rfl, _⟩ <;> exact ⟨rfl, rfl, rfl⟩
theorem BuB.tch (k : BuB U8 h b c buf l) (ht : Tch S h h') (hS : c ≠ b → c ∉ S) : BuB U8 h' b c buf l := by
 rcases k with k | ⟨h1, h2, h3, h4, h5⟩
 ·exact .inl k
 ·exact .inr ⟨h1, h2, h3, by have := ht.1; omega, h5.tch ht h4 (hS h3)⟩
theorem BldR.new (TB U8 : TypeId) (h : AHeap) : BldR TB U8 (newH h TB [.nilp, .nsl]) h.next h.next [] :=
 ⟨_, _, RowH.new h TB [.nilp, .nsl], Nat.lt_succ_self _, .inl rfl, .inl ⟨rfl, rfl, rfl⟩⟩
theorem BuB.append {t u : TypeId} (k : BuB U8 h b c buf l) (hb : b < h.next) (s : Bytes) (he : elemOf P t = some U8) (hu : notInt P u = true) (hsz : P.cellsOf U8 = 1) (hfit : fitB P U8 1 = true) (hex : memB U8 h.ex = false) (hbig : l.length + s.length ≤ 1000000000) :
  ∃ buf' c' h', opAppend P h t u buf (strA s) = some (.val buf', h') ∧ BuB U8 h' b c' buf' (l ++ s) ∧ (c' = c ∨ h.next ≤ c') ∧ Tch [c] h h' ∧ h'.get b = h.get b := by
 cases s with
 | nil =>
  have hlen : lenA buf = some l.length := by rcases k with ⟨rfl, rfl, _⟩ | ⟨rfl, _⟩ <;> rfl
  refine ⟨buf, c, h, ?_, by rw [List.append_nil]; exact k, .inl rfl, Tch.refl _ _, rfl⟩
  have h0 : lenA (strA []) = some 0 := rfl
  have hf : firstA h 1 0 (strA []) = some [] := firstA_str []
  have hl0 : l.length ≤ 1000000000 := by simpa using hbig
  have hfit2 := bytesFit_of (P := P) (e := U8) (B := 1) (k := l.length + 0) hfit (by omega) (by omega)
  have hap : appendA h U8 1 buf [] 0 = some (.val buf, h) := by rcases k with ⟨rfl, _⟩ | ⟨rfl, _⟩ <;> rfl
  unfold notInt at hu
  unfold opAppend
  split at hu
  ·cases hu
  ·rename_i ud hni heq
   simp only [he, hlen, h0, heq, hsz, hf, hfit2, hex, List.all_nil, and_self, if_true]
   exact hap
  ·cases hu
 | cons y s =>
  rcases k with ⟨rfl, rfl, rfl⟩ | ⟨rfl, k0, k1, k2, k3⟩
  ·have e2 := append_new (P := P) (h := h) (t := t) (u := u) (n := s.length) (x := strA (y :: s)) he hu hsz rfl (firstA_str (h := h) (y :: s)) (bytesFit_of hfit (by simp at hbig; omega) (by simp at hbig; omega)) (bytesC_one _) hex
   refine ⟨_, h.next, _, e2, .inr ⟨by simp, by simp, by omega, Nat.lt_succ_self _, ?_⟩, .inr (Nat.le_refl _), Tch.newH _ _ _ _, get_new_other _ (by omega)⟩
   rw [List.nil_append]
   exact RowH.new _ _ _
  ·have e2 := append_more (P := P) (h := h) (t := t) (u := u) (b := c) (o := 0) (m := l.length) (x := strA (y :: s)) (n := s.length) (cs := bytesC l) he hu hsz rfl (firstA_str (h := h) (y :: s)) (bytesFit_of hfit (by simp at hbig; omega) (by simp at hbig; omega)) (bytesC_one _) hex (by
    have := k3.part (o := 0) (n := (bytesC l).length) (by omega)
    rw [List.drop_zero, List.take_length, bytesC_length] at this
    rw [Nat.mul_one]
    exact this) k3.type
   have t1 : Tch [c] h (h.put c .dead) := Tch.put (.inl (by simp)) _
   refine ⟨_, h.next, _, e2, .inr ⟨by simp, by simp, by omega, Nat.lt_succ_self _, ?_⟩, .inr (Nat.le_refl _), t1.trans (Tch.new _ _ _), ?_⟩
   ·rw [bytesC_append]
    exact RowH.new (h.put c .dead) U8 _
   ·exact (get_new_other (H := h.put c .dead) _ (show h.next ≠ b by omega)).trans (get_put_other _ k1)
end
end
end Go.Proofs.Ytpnccmlajhhpdaa.Abs
namespace Go.Proofs.Ytpnccmlajhhpdaa.Abs
noncomputable section
open Go.RowKit
section
variable {P : Program}
end
end
end Go.Proofs.Ytpnccmlajhhpdaa.Abs
namespace Go.Proofs.Ytpnccmlajhhpdaa.Abs
noncomputable section
open Go.RowKit
abbrev RowT := Nat × TypeId × List AV
structure Mem (S : List Nat) (h0 h : AHeap) (rs : List RowT) : Prop where
 row : ∀ x ∈ rs, RowH h x.1 x.2.1 x.2.2 ∧ x.1 < h.next ∧ (x.1 ∈ S ∨ h0.next ≤ x.1)
 apart : (rs.map (·.1)).Nodup
 tch : Tch S h0 h
section
variable {S : List Nat} {h0 h h' : AHeap} {xs ys rs : List RowT} {b o n : Nat} {e : TypeId} {l l' vs : List AV} {v : AV} {Q : ARes → AHeap → Prop} {K : AHeap → R} {x : R} {x0 x1 x2 x3 x4 : RowT}
theorem Mem.nil (S : List Nat) (h : AHeap) : Mem S h h [] := ⟨by simp, by simp, Tch.refl _ _⟩
theorem Mem.one (k : RowH h b e l) (hb : b < h.next) : Mem [b] h h [(b, e, l)] := ⟨by simpa using ⟨k, hb⟩, by simp, Tch.refl _ _⟩
theorem Mem.at (M : Mem S h0 h (xs ++ (b, e, l) :: ys)) : RowH h b e l ∧ b < h.next ∧ (b ∈ S ∨ h0.next ≤ b) := M.row (b, e, l) (by simp)
theorem Mem.upd (M : Mem S h0 h (xs ++ (b, e, l) :: ys)) (ht : Tch [b] h h') (k : RowH h' b e l') : Mem S h0 h' (xs ++ (b, e, l') :: ys) := by
 have hap := M.apart
 have hle := ht.1
 simp only [List.map_append, List.map_cons] at hap
 have hne : ∀ x ∈ xs ++ ys, x.1 ≠ b := by
  intro x hx hxb
  rw [List.nodup_append] at hap
  obtain ⟨_, h2, h3⟩ := hap
  rw [List.nodup_cons] at h2
  rcases List.mem_append.1 hx with hx | hx
  ·exact h3 x.1 (List.mem_map_of_mem hx) b (by simp) hxb
  ·exact h2.1 (by rw [← hxb]; exact List.mem_map_of_mem hx)
 refine ⟨fun x hx => ?_, by simpa only [List.map_append, List.map_cons] using hap, M.tch.trans' ht fun i hi => ?_⟩
 ·have hx' : x ∈ xs ++ ys ∨ x = (b, e, l') := by
   rcases List.mem_append.1 hx with hx | hx
   ·exact .inl (List.mem_append_left _ hx)
   ·rcases List.mem_cons.1 hx with hx | hx
    ·exact .inr hx
    ·exact .inl (List.mem_append_right _ hx)
  rcases hx' with hx' | rfl
  ·obtain ⟨h1, h2, h3⟩ := M.row x (by
    rcases List.mem_append.1 hx' with hx | hx
    ·exact List.mem_append_left _ hx
    ·exact List.mem_append_right _ (List.mem_cons_of_mem _ hx))
   exact ⟨h1.tch ht h2 (by simpa using hne x hx'), by omega, h3⟩
  ·have := M.at
   exact ⟨k, by show b < h'.next; omega, this.2.2⟩
 ·simp only [List.mem_cons, List.not_mem_nil, or_false] at hi
  subst hi
  exact M.at.2.2
theorem Mem.keep (M : Mem S h0 h rs) (ht : Tch [] h h') : Mem S h0 h' rs := by
 have hle := ht.1
 refine ⟨fun x hx => ?_, M.apart, M.tch.trans (ht.mono (by simp))⟩
 obtain ⟨h1, h2, h3⟩ := M.row x hx
 exact ⟨h1.tch ht h2 (by simp), by omega, h3⟩
theorem Mem.new (M : Mem S h0 h rs) (ht : Tch [] h h') (k : RowH h' b e l) (hb : h.next ≤ b) (hb2 : b < h'.next) : Mem S h0 h' ((b, e, l) :: rs) := by
 have M' := M.keep ht
 have hle := M.tch.1
 refine ⟨fun x hx => ?_, ?_, M'.tch⟩
 ·rcases List.mem_cons.1 hx with rfl | hx
  ·exact ⟨k, hb2, .inr (by show h0.next ≤ b; omega)⟩
  ·exact M'.row x hx
 ·rw [List.map_cons, List.nodup_cons]
  refine ⟨fun hm => ?_, M.apart⟩
  obtain ⟨x, hx, hxb⟩ := List.mem_map.1 hm
  have := (M.row x hx).2.1
  omega
theorem Mem.newH (M : Mem S h0 h rs) (e : TypeId) (l : List AV) : Mem S h0 (newH h e l) ((h.next, e, l) :: rs) := M.new (Tch.newH _ _ _ _) (RowH.new _ _ _) (Nat.le_refl _) (Nat.lt_succ_self _)
theorem Mem.ex (M : Mem S h0 h rs) : h.ex = h0.ex := M.tch.2.1
theorem Wp.mnew (M : Mem S h0 h rs) (hk : ∀ h', Mem S h0 h' ((h.next, e, l) :: rs) → Wp (K h') Q) : Wp (Abs.lett (Abs.newH h e l) K) Q := hk _ (M.newH e l)
theorem Wp.mbox {K : AV → AHeap → R} (M : Mem S h0 h rs) (h1 : l.all AV.one = true) (hk : ∀ h', Mem S h0 h' ((h.next, e, l) :: rs) → Wp (K (.ptr h.next 0) h') Q) : Wp (Abs.outK (opBox h e (some (.agg l))) K) Q :=
 Wp.outK (box_agg h1) (hk _ (M.newH e l))
theorem Wp.mnews {K : AV → AHeap → R} {w : OutT} {sz : Nat} (M : Mem S h0 h rs) (eb : w = outNewS h e l n sz) (h1 : l.all AV.one = true) (hex : memB e h0.ex = false) (hk : ∀ h', Mem S h0 h' ((h.next, e, l) :: rs) → Wp (K (.sl h.next 0 n sz) h') Q) : Wp (Abs.outK w K) Q := by
 refine Wp.outK (v := .sl h.next 0 n sz) (h1 := Abs.newH h e l) ?_ (hk _ (M.newH e l))
 rw [eb]
 unfold outNewS
 rw [if_pos ⟨h1, by rw [M.ex]; exact hex⟩]
 rfl
theorem and_t {a c : Bool} (h1 : a = true) (h2 : c = true) : (a && c) = true := by rw [h1, h2]; rfl
theorem Mem.at0 (M : Mem S h0 h ((b, e, l) :: ys)) : RowH h b e l ∧ b < h.next ∧ (b ∈ S ∨ h0.next ≤ b) := Mem.at (xs := []) M
theorem Wp.ld0 {K : AV → R} (M : Mem S h0 h ((b, e, l) :: ys)) (ho : l[o]? = some v) (hk : Wp (K v) Q) : Wp (Abs.obind (ldCell h (.ptr b o)) K) Q := Wp.obind (RowH.cell' (Mem.at (xs := []) M).1 ho) hk
theorem Wp.lr0 {K : List AV → R} (M : Mem S h0 h ((b, e, l) :: ys)) (hn : l.length = n) (hk : Wp (K l) Q) : Wp (Abs.obind (ldRow h n (.ptr b 0)) K) Q := Wp.obind (RowH.ldAll (Mem.at (xs := []) M).1 hn) hk
theorem Wp.sa0 (M : Mem S h0 h ((b, e, l) :: ys)) (hn : vs.length = n) (hl : l.length = n) (h1 : vs.all AV.one = true) (hk : ∀ h', Mem S h0 h' ((b, e, vs) :: ys) → Wp (K h') Q) : Wp (Abs.obind (stRow h n vs (.ptr b 0)) K) Q :=
 Wp.stAll (Mem.at (xs := []) M).1 hn hl h1 fun h' k' t' _ => hk h' (Mem.upd (xs := []) M t' k')
theorem Wp.ms0 (M : Mem S h0 h ((b, e, l) :: ys)) (ho : o < l.length) (h1 : v.one = true) (hk : ∀ h', Mem S h0 h' ((b, e, l.set o v) :: ys) → Wp (K h') Q) : Wp (Abs.obind (stRow h 1 [v] (.ptr b o)) K) Q :=
 Wp.st1 (Mem.at (xs := []) M).1 ho h1 fun h' k' t' _ => hk h' (Mem.upd (xs := []) M t' k')
theorem Mem.at1 (M : Mem S h0 h (x0 :: (b, e, l) :: ys)) : RowH h b e l ∧ b < h.next ∧ (b ∈ S ∨ h0.next ≤ b) := Mem.at (xs := [x0]) M
theorem Wp.ld1 {K : AV → R} (M : Mem S h0 h (x0 :: (b, e, l) :: ys)) (ho : l[o]? = some v) (hk : Wp (K v) Q) : Wp (Abs.obind (ldCell h (.ptr b o)) K) Q := Wp.obind (RowH.cell' (Mem.at (xs := [x0]) M).1 ho) hk
end
end
end Go.Proofs.Ytpnccmlajhhpdaa.Abs
namespace Go.Proofs.Ytpnccmlajhhpdaa.Abs
noncomputable section
open Go.RowKit
def GrowT (e : TypeId) (sz : Nat) (rows : List (List AV)) (v : AV) (T : List RowT) : Prop :=
 (∀ r ∈ rows, r.length = sz ∧ r.all AV.one = true) ∧ ((rows = [] ∧ v = .nsl ∧ T = []) ∨ (rows ≠ [] ∧ ∃ c, v = .sl c 0 rows.length sz ∧ T = [(c, e, rows.flatten)]))
section
variable {P : Program} {S : List Nat} {h0 h h' : AHeap} {xs ys rs T : List RowT} {b o n sz B : Nat} {e t u : TypeId} {l l' vs r : List AV} {v x : AV} {rows : List (List AV)} {Q : ARes → AHeap → Prop}
theorem GrowT.one (g : GrowT e sz rows v T) : v.one = true ∧ AV.cells v = [v] := by
 rcases g.2 with ⟨rfl, rfl, _⟩ | ⟨_, c, rfl, _⟩ <;> exact ⟨rfl, rfl⟩
theorem Mem.frame (M : Mem S h0 h (xs ++ rs)) (M' : Mem (xs.map (·.1)) h h' ys) : Mem S h0 h' (ys ++ rs) := by
 have hap := M.apart
 rw [List.map_append, List.nodup_append] at hap
 obtain ⟨a1, a2, a3⟩ := hap
 have hxs : ∀ b ∈ xs.map (·.1), b ∈ S ∨ h0.next ≤ b := by
  intro b hb
  obtain ⟨x, hx, rfl⟩ := List.mem_map.1 hb
  exact (M.row x (List.mem_append_left _ hx)).2.2
 have hle := M.tch.1
 have hle' := M'.tch.1
 refine ⟨fun x hx => ?_, ?_, M.tch.trans' M'.tch hxs⟩
 ·rcases List.mem_append.1 hx with hx | hx
  ·obtain ⟨h1, h2, h3⟩ := M'.row x hx
   exact ⟨h1, h2, h3.elim (fun h => hxs _ h) (fun h => .inr (by omega))⟩
  ·obtain ⟨h1, h2, h3⟩ := M.row x (List.mem_append_right _ hx)
   exact ⟨h1.tch M'.tch h2 (fun hm => a3 x.1 hm x.1 (List.mem_map_of_mem hx) rfl), by omega, h3⟩
 ·rw [List.map_append, List.nodup_append]
  refine ⟨M'.apart, a2, fun a ha b hb hab => ?_⟩
  subst hab
  obtain ⟨x, hx, rfl⟩ := List.mem_map.1 ha
  rcases (M'.row x hx).2.2 with h | h
  ·exact a3 _ h _ hb rfl
  ·obtain ⟨y, hy, hyx⟩ := List.mem_map.1 hb
   have := (M.row y (List.mem_append_right _ hy)).2.1
   omega
end
end
end Go.Proofs.Ytpnccmlajhhpdaa.Abs
