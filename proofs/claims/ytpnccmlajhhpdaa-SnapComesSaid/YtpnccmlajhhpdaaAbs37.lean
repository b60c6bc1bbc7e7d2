/- Loops over functions: the small machine does them, rounds and all. -/
import Derived.Test.YtpnccmlajhhpdaaAbs22
namespace Go.Proofs.Ytpnccmlajhhpdaa.Abs
noncomputable section

/-- one function for calls (false) and rounds (true: the loop's block and what is handed to it) -/
abbrev BothF := Bool → Nat → List AV → AHeap → Option (ARes × AHeap)
def stepOutR (both : BothF) (a : AAct) (d : Option Tmp) : OutT → Option AStep
  | some (.val v, h) => stepPut a d v h
  | some (.skip, h) => stepPut a d (.tup []) h
  | some (.call f args, h) => stepRes a d (both false f args h)
  | some (.round b args, h) => stepRes a d (both true b args h)
  | some (.panic v, h) => some (.panic v h)
  | _ => none
def stepR (P : Program) (both : BothF) (ops : Array Oper) (o : Oper) (a : AAct) (h : AHeap) : Option AStep :=
  match wantedT ops a.tmps.get o.guard with
  | some true => stepOutR both a o.dst (opA P a.eval o h)
  | some false => stepPut a o.dst (.tup []) h
  | none => none
def opsRI (P : Program) (both : BothF) (ops : Array Oper) : List Oper → AAct → AHeap → CodeT
  | [], a, h => some (.normal, a, h)
  | o :: rest, a, h => aNext (opsRI P both ops rest) a (stepR P both ops o a h)
def opsR (P : Program) (both : BothF) (ops : Array Oper) (l : List Oper) : AAct → AHeap → CodeT :=
  @List.rec Oper (fun _ => AAct → AHeap → CodeT) (fun a h => some (.normal, a, h)) (fun o _ ih a h => aNext ih a (stepR P both ops o a h)) l
/-- none of these defers -/
def noDefer (ops : Array Oper) : Bool := ops.toList.all fun o => match o.op with
  | .defer _ => false
  | _ => true
def regionR (P : Program) (both : BothF) (N : Nat) (ops : Array Oper) (a : AAct) (h : AHeap) (d : Bool) : CodeT := match okOps N ops.toList && noDefer ops with
  | true => match d with
    | true => aDraw P (both false) ops a h
    | false => opsR P both ops ops.toList a h
  | false => none
/-- a loop over a function begins: its block, and the frame with the mark -/
def enterR (rb : Option Nat) (N : Nat) (ps : Array Tmp) (x y : Code) (a : AAct) (h : AHeap) : Option (Nat × AAct × AHeap) := match rb with
  | none => some (h.next + 1, ⟨a.tmps, (0, [], [.mrk h.next]) :: a.defers⟩, (h.new (.obj .dfr)).new (.obj (.loop ⟨.ready, .none, a.tmps, N, ps, x, y, h.next⟩)))
  | some b => match h.get b with
    | some (.obj (.loop r)) => some (h.next, a, h.new (.obj (.loop ⟨.ready, .none, a.tmps, N, ps, x, y, r.dfr⟩)))
    | _ => none
/-- it ends -/
def endR (l : Nat) (a : AAct) : Option (ARes × AHeap) → CodeT
  | some (.ret _, h) => match h.get l with
    | some (.obj (.loop r)) => match r.st with
      | .busy => none
      | _ => match r.pend with
        | .none => some (.normal, a, h.put l (.obj (.loop { r with st := .exhausted })))
        | .ret => some (.ret, a, h.put l (.obj (.loop { r with st := .exhausted })))
        | .exit id => some (.exit id, a, h.put l (.obj (.loop { r with st := .exhausted })))
    | _ => none
  | _ => none
def rangeR (P : Program) (both : BothF) (rb : Option Nat) (N : Nat) (f : Option AV) (ps : Array Tmp) (x y : Code) (a : AAct) (h : AHeap) : CodeT := match f with
  | some (.fn g first cap) => match hasBody P g with
    | true => match enterR rb N ps x y a h with
      | some (l, a1, h1) => endR l a1 (both false g (first ++ [.yld l] ++ cap) h1)
      | none => none
    | false => none
  | _ => none
def codeRI (P : Program) (both : BothF) (lf N : Nat) (rb : Option Nat) : Code → AAct → AHeap → CodeT
  | .skip, a, h => some (.normal, a, h)
  | .region _ ops d, a, h => regionR P both N ops a h d
  | .seq x y, a, h => aThen (codeRI P both lf N rb x a h) (codeRI P both lf N rb y)
  | .cond c x y, a, h => aCond (a.eval c) (codeRI P both lf N rb x a h) (codeRI P both lf N rb y a h)
  | .block id c, a, h => aBlock id (codeRI P both lf N rb c a h)
  | .loop c, a, h => aLoop (codeRI P both lf N rb c) lf a h
  | .rangeFunc f ps x y, a, h => rangeR P both rb N (a.eval f) ps x y a h
  | .exit id, a, h => some (.exit id, a, h)
  | .ret, a, h => some (.ret, a, h)
  | _, _, _ => none
def codeR (P : Program) (both : BothF) (lf N : Nat) (rb : Option Nat) (c : Code) : AAct → AHeap → CodeT :=
  @Code.rec (fun _ => AAct → AHeap → CodeT)
    (fun a h => some (.normal, a, h))
    (fun _ ops d a h => regionR P both N ops a h d)
    (fun _ _ ix iy a h => aThen (ix a h) iy)
    (fun c _ _ ix iy a h => aCond (a.eval c) (ix a h) (iy a h))
    (fun id _ ic a h => aBlock id (ic a h))
    (fun _ ic a h => aLoop ic lf a h)
    (fun f ps x y _ _ a h => rangeR P both rb N (a.eval f) ps x y a h)
    (fun id a h => some (.exit id, a, h))
    (fun _ _ _ _ => none)
    (fun _ _ _ => none)
    (fun _ _ _ => none)
    (fun a h => some (.ret, a, h))
    (fun _ _ _ => none) c
/-- the marks, one behind the other; it returns -/
def marksR (P : Program) (fn : Func) (a : AAct) : List (FuncId × List AV × List AV) → AHeap → Option (ARes × AHeap)
  | [], h => retA h (resAll P a h fn.results.toList)
  | (0, [], [.mrk D]) :: ds, h => match h.get D with
    | some (.obj .dfr) => marksR P fn a ds (h.put D (.obj .shut))
    | _ => none
  | _, _ => none
def marksP : AV → List (FuncId × List AV × List AV) → AHeap → Option (ARes × AHeap)
  | v, [], h => some (.panic v, h)
  | v, (0, [], [.mrk D]) :: ds, h => match h.get D with
    | some (.obj .dfr) => marksP v ds (h.put D (.obj .shut))
    | _ => none
  | _, _, _ => none
def leaveR (P : Program) (fn : Func) : CodeT → Option (ARes × AHeap)
  | some (.normal, a, h) => marksR P fn a a.defers h
  | some (.ret, a, h) => marksR P fn a a.defers h
  | some (.panic v, a, h) => marksP v a.defers h
  | _ => none
def bodyR (P : Program) (both : BothF) (lf : Nat) (f : FuncId) (args : List AV) (h : AHeap) : Option (ARes × AHeap) :=
  match P.funcs[f]? with
  | none => none
  | some fn => match fn.body with
    | none => none
    | some c => if Nat.ble args.length fn.ntmps = true then leaveR P fn (codeR P both lf fn.ntmps none c ⟨T.put .e 0 args, []⟩ h) else none
/-- what is handed to a round, in its slots -/
def putPs (N : Nat) : List Tmp → List AV → T AV → Option (T AV)
  | [], [], t => some t
  | p :: ps, v :: vs, t => if Nat.blt p N = true then putPs N ps vs (t.set p v) else none
  | _, _, _ => none
def jumpOf : AExit → Option AJump
  | .normal => some .none
  | .ret => some .ret
  | .exit id => some (.exit id)
  | _ => none
def endRound (b : Nat) : CodeT → Option (ARes × AHeap)
  | some (e, _, h) => match jumpOf e with
    | some j => match h.get b with
      | some (.obj (.loop r)) => some (.ret (.bool j.isNone), h.put b (.obj (.loop { r with st := if j.isNone then .ready else .done, pend := j })))
      | _ => none
    | none => none
  | none => none
def midRound (body : AAct → AHeap → CodeT) (b : Nat) : CodeT → Option (ARes × AHeap)
  | some (.normal, a, h) => match h.get b with
    | some (.obj (.loop r)) => match r.st with
      | .ready => endRound b (body a (h.put b (.obj (.loop { r with st := .busy }))))
      | _ => none
    | _ => none
  | _ => none
def roundR (P : Program) (both : BothF) (lf : Nat) (b : Nat) (args : List AV) (h : AHeap) : Option (ARes × AHeap) := match h.get b with
  | some (.obj (.loop r)) => match putPs r.N r.ps.toList args r.tmps with
    | some t => midRound (codeR P both lf r.N (some b) r.body) b (codeR P both lf r.N (some b) r.assign ⟨t, []⟩ h)
    | none => none
  | _ => none
/-- functions of the list go by code that may hold loops over functions, or call a round; look: what has been looked up -/
def bothA (P : Program) (spec : SpecT) (look : FuncId → List AV → Option ARes) (L : List FuncId) (lf : Nat) : Nat → BothF
  | 0 => fun _ _ _ _ => none
  | d + 1 => fun k f args h => match k with
    | true => roundR P (bothA P spec look L lf d) lf f args h
    | false => match spec f with
      | some s => s (bothA P spec look L lf d false) args h
      | none => match look f args with
        | some r => some (r, h)
        | none => match memB f L with
          | true => bodyR P (bothA P spec look L lf d) lf f args h
          | false => bodyA P (bothA P spec look L lf d false) lf f args h
end
end Go.Proofs.Ytpnccmlajhhpdaa.Abs
