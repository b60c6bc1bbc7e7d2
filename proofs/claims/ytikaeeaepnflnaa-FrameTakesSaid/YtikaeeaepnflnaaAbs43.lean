/- The small machine: several texts in one. -/
import Derived.Test.YtikaeeaepnflnaaAbs40
import Derived.OpenShut
import Derived.LaidMore
/- Runs cut into pieces: a machine that goes step by step through the functions that are opened, and in one step through all else. -/
namespace Go.Proofs.Ytikaeeaepnflnaa.Abs
noncomputable section
open Go.RowKit

/-- what a frame has yet to do: places in its function's code (the last turn first) -/
inductive KI where
  | code (p : List Nat)
  | inLoop (p : List Nat)
  | inBlock (id : Nat)
  | ops (p : List Nat) (j : Nat)
def childAt (i : Nat) : Code → Code
  | .seq x y => match i with
    | 0 => x
    | _ => y
  | .cond _ x y => match i with
    | 0 => x
    | _ => y
  | .block _ x => x
  | .loop x => x
  | _ => .skip
def codeAt (c : Code) : List Nat → Code
  | [] => c
  | i :: p => childAt i (codeAt c p)
def opsIn : Code → Array Oper
  | .region _ ops false => ops
  | _ => #[]
def bodyAt (P : Program) (f : FuncId) : Code := match P.funcs[f]? with
  | some fn => fn.body.getD .skip
  | none => .skip
structure MF where
  f : FuncId
  N : Nat
  a : AAct
  k : List KI
structure MS where
  top : MF
  st : List (Option Tmp × MF)
  h : AHeap
/-- a step: one piece of code at once; a piece of code opened; n operations at once; a call that is opened; a call put off; a return; behind a block, a loop's round, a region -/
inductive MI where
  | atom
  | opn
  | ops (n : Nat)
  | call
  | dfr
  | fall
  | pop
  | pass
  | rounds (n : Nat)
def exitK (id : Nat) : List KI → Option (List KI)
  | [] => none
  | .inBlock i :: k => match Nat.beq i id with
    | true => some k
    | false => exitK id k
  | _ :: k => exitK id k
def contE (k : List KI) : AExit → Option (List KI)
  | .normal => some k
  | .exit id => exitK id k
  | .ret => some []
  | _ => none
def goE (S : MS) (k : List KI) : CodeT → Option MS
  | some (e, a, h) => match contE k e with
    | some k' => some ⟨⟨S.top.f, S.top.N, a, k'⟩, S.st, h⟩
    | none => none
  | none => none
def opnM (S : MS) (p : List Nat) (k : List KI) : Code → Option MS
  | .skip => some { S with top := { S.top with k := k } }
  | .seq _ _ => some { S with top := { S.top with k := .code (0 :: p) :: .code (1 :: p) :: k } }
  | .cond c _ _ => match S.top.a.eval c with
    | some (.bool true) => some { S with top := { S.top with k := .code (0 :: p) :: k } }
    | some (.bool false) => some { S with top := { S.top with k := .code (1 :: p) :: k } }
    | _ => none
  | .block id _ => some { S with top := { S.top with k := .code (0 :: p) :: .inBlock id :: k } }
  | .loop _ => some { S with top := { S.top with k := .code (0 :: p) :: .inLoop (0 :: p) :: k } }
  | .region _ ops false => match okOps S.top.N ops.toList with
    | true => some { S with top := { S.top with k := .ops p 0 :: k } }
    | false => none
  | .exit id => match exitK id k with
    | some k' => some { S with top := { S.top with k := k' } }
    | none => none
  | .ret => some { S with top := { S.top with k := [] } }
  | _ => none
/-- a call is opened -/
def callM (P : Program) (S : MS) (p : List Nat) (j : Nat) (k : List KI) (o : Oper) : OutT → Option MS
  | some (.call g args, h) => match P.funcs[g]? with
    | some fn => match fn.body with
      | some _ => match Nat.ble args.length fn.ntmps && okDst S.top.N o with
        | true => some ⟨⟨g, fn.ntmps, ⟨T.put .e 0 args, []⟩, [.code []]⟩, (o.dst, ⟨S.top.f, S.top.N, S.top.a, .ops p (j + 1) :: k⟩) :: S.st, h⟩
        | false => none
      | none => none
    | none => none
  | _ => none
/-- the calls put off and the marks, one behind the other; it returns -/
def dsM (P : Program) (call : CallF) (lf : Nat) (fn : Func) (a : AAct) : List (FuncId × List AV × List AV) → Option AV → AHeap → Option (ARes × AHeap)
  | [], none, h => retA h (resAll P a h fn.results.toList)
  | [], some v, h => some (.panic v, h)
  | (f, args, cap) :: ds, u, h => match isMrk cap with
    | true => match f, args, cap with
      | 0, [], [.mrk D] => match h.get D with
        | some (.obj .dfr) => dsM P call lf fn a ds u (h.put D (.obj .shut))
        | _ => none
      | _, _, _ => none
    | false => match callD P call lf f (args ++ cap) u h with
      | some (u, h) => dsM P call lf fn a ds u h
      | none => none
/-- a frame panics: the frames are left, up to the one that takes it up -/
def fallM (P : Program) (call : CallF) (lf : Nat) : List (Option Tmp × MF) → MF → AV → AHeap → Option MS
  | [], _, _, _ => none
  | (d, fr) :: st, top, v, h => match P.funcs[top.f]? with
    | some fn => match dsM P call lf fn top.a top.a.defers (some v) h with
      | some (.ret x, h) => match (match d with
          | some t => Nat.blt t fr.N
          | none => true) with
        | true => some ⟨{ fr with a := fr.a.put d x }, st, h⟩
        | false => none
      | some (.panic x, h) => fallM P call lf st fr x h
      | none => none
    | none => none
/-- a call is put off -/
def dfrM (S : MS) (p : List Nat) (j : Nat) (k : List KI) (o : Oper) : OutT → Option MS
  | some (.defer f args cap, h) => match okDst S.top.N o with
    | true => some ⟨{ S.top with a := (⟨S.top.a.tmps, (f, args, cap) :: S.top.a.defers⟩ : AAct).put o.dst (.tup []), k := .ops p (j + 1) :: k }, S.st, h⟩
    | false => none
  | _ => none
def noDeferL (l : List Oper) : Bool := l.all fun o => match o.op with
  | .defer _ => false
  | _ => true
def popM (S : MS) : Option (ARes × AHeap) → Option MS
  | some (.ret v, h) => match S.st with
    | (d, fr) :: st => match (match d with
        | some t => Nat.blt t fr.N
        | none => true) with
      | true => some ⟨{ fr with a := fr.a.put d v }, st, h⟩
      | false => none
    | [] => none
  | _ => none
def stepM (P : Program) (both : BothF) (lf : Nat) (S : MS) : MI → Option MS
  | .atom => match S.top.k with
    | .code p :: k => goE S k (codeR P both lf S.top.N none (codeAt (bodyAt P S.top.f) p) S.top.a S.h)
    | _ => none
  | .opn => match S.top.k with
    | .code p :: k => opnM S p k (codeAt (bodyAt P S.top.f) p)
    | _ => none
  | .ops n => match S.top.k with
    | .ops p j :: k => match okOps S.top.N (opsIn (codeAt (bodyAt P S.top.f) p)).toList && noDeferL (((opsIn (codeAt (bodyAt P S.top.f) p)).toList.drop j).take n) with
      | true => match opsR P both (opsIn (codeAt (bodyAt P S.top.f) p)) (((opsIn (codeAt (bodyAt P S.top.f) p)).toList.drop j).take n) S.top.a S.h with
        | some (.normal, a, h) => some ⟨{ S.top with a := a, k := .ops p (j + n) :: k }, S.st, h⟩
        | _ => none
      | false => none
    | _ => none
  | .call => match S.top.k with
    | .ops p j :: k => match (opsIn (codeAt (bodyAt P S.top.f) p)).toList.drop j with
      | o :: _ => match o.op with
        | .defer _ => none
        | _ => match wantedT (opsIn (codeAt (bodyAt P S.top.f) p)) S.top.a.tmps.get o.guard with
          | some true => callM P S p j k o (opA P S.top.a.eval o S.h)
          | _ => none
      | [] => none
    | _ => none
  | .dfr => match S.top.k with
    | .ops p j :: k => match (opsIn (codeAt (bodyAt P S.top.f) p)).toList.drop j with
      | o :: _ => match wantedT (opsIn (codeAt (bodyAt P S.top.f) p)) S.top.a.tmps.get o.guard with
        | some true => dfrM S p j k o (opA P S.top.a.eval o S.h)
        | _ => none
      | [] => none
    | _ => none
  | .fall => match S.top.k with
    | .code p :: _ => match codeR P both lf S.top.N none (codeAt (bodyAt P S.top.f) p) S.top.a S.h with
      | some (.panic v, a, h) => fallM P (both false) lf S.st { S.top with a := a } v h
      | _ => none
    | .ops p j :: _ => match okOps S.top.N (opsIn (codeAt (bodyAt P S.top.f) p)).toList && noDeferL (((opsIn (codeAt (bodyAt P S.top.f) p)).toList.drop j).take 1) with
      | true => match opsR P both (opsIn (codeAt (bodyAt P S.top.f) p)) (((opsIn (codeAt (bodyAt P S.top.f) p)).toList.drop j).take 1) S.top.a S.h with
        | some (.panic v, a, h) => fallM P (both false) lf S.st { S.top with a := a } v h
        | _ => none
      | false => none
    | _ => none
  | .pop => match S.top.k with
    | [] => match P.funcs[S.top.f]? with
      | some fn => popM S (dsM P (both false) lf fn S.top.a S.top.a.defers none S.h)
      | none => none
    | _ => none
  | .pass => match S.top.k with
    | .inBlock _ :: k => some { S with top := { S.top with k := k } }
    | .inLoop p :: k => some { S with top := { S.top with k := .code p :: .inLoop p :: k } }
    | .ops p j :: k => match (opsIn (codeAt (bodyAt P S.top.f) p)).toList.drop j with
      | [] => some { S with top := { S.top with k := k } }
      | _ => none
    | _ => none
  | .rounds _ => none
def nextM (ih : MS → Option MS) : Option MS → Option MS
  | some S => ih S
  | none => none
def roundM (P : Program) (both : BothF) (lf : Nat) (S : MS) : Option MS := nextM (fun S => stepM P both lf S .atom) (stepM P both lf S .pass)
/-- so many rounds of a loop -/
def roundsM (P : Program) (both : BothF) (lf : Nat) (n : Nat) : MS → Option MS := @Nat.rec (fun _ => MS → Option MS) (fun S => some S) (fun _ ih S => nextM ih (roundM P both lf S)) n
def stepX (P : Program) (both : BothF) (lf : Nat) (S : MS) : MI → Option MS
  | .rounds n => roundsM P both lf n S
  | i => stepM P both lf S i
def runMI (P : Program) (both : BothF) (lf : Nat) : List MI → MS → Option MS
  | [], S => some S
  | i :: l, S => nextM (runMI P both lf l) (stepX P both lf S i)
def runM (P : Program) (both : BothF) (lf : Nat) (l : List MI) : MS → Option MS :=
  @List.rec MI (fun _ => MS → Option MS) (fun S => some S) (fun i _ ih S => nextM ih (stepX P both lf S i)) l
/-- it is about to return true -/
def lastM (P : Program) (S : MS) : Bool := match S.top.k, S.st, P.funcs[S.top.f]? with
  | [], [], some fn => saysTrue (dsM P (fun _ _ _ => none) 0 fn S.top.a S.top.a.defers none S.h)
  | _, _, _ => false

/-! ### states as texts -/
structure LF where
  f : FuncId
  N : Nat
  l : Fr
  ds : List (FuncId × List AV × List AV)
  k : List KI
inductive LO where
  | row (l : List AV) (e : TypeId)
  | map (es : List (AV × AV))
  | glob (l : List AV)
  | dfr
structure LS where
  top : LF
  st : List (Option Tmp × LF)
  next : Nat
  ex : List Nat
  obs : List (Nat × LO)
def LO.obj : LO → AObj
  | .row l e => rowOf l e
  | .map es => .map es
  | .glob l => .glob (T.put .e 0 l)
  | .dfr => .obj .dfr
def obTree : List (Nat × LO) → T AObj
  | [] => .e
  | (b, o) :: r => (obTree r).set b o.obj
def LF.mf (x : LF) : MF := ⟨x.f, x.N, ⟨x.l.tree, x.ds⟩, x.k⟩
def LS.ms (x : LS) : MS := ⟨x.top.mf, x.st.map fun y => (y.1, y.2.mf), ⟨x.next, x.ex, obTree x.obs⟩⟩
def sameN : List Nat → List Nat → Bool
  | [], [] => true
  | a :: l, b :: m => Nat.beq a b && sameN l m
  | _, _ => false
def sameKI : KI → KI → Bool
  | .code p, .code q => sameN p q
  | .inLoop p, .inLoop q => sameN p q
  | .inBlock i, .inBlock j => Nat.beq i j
  | .ops p i, .ops q j => sameN p q && Nat.beq i j
  | _, _ => false
def sameK : List KI → List KI → Bool
  | [], [] => true
  | a :: l, b :: m => sameKI a b && sameK l m
  | _, _ => false
def sameD : List (FuncId × List AV × List AV) → List (FuncId × List AV × List AV) → Bool
  | [], [] => true
  | (f, a, b) :: l, (g, c, d) :: m => Nat.beq f g && AV.sameL a c && AV.sameL b d && sameD l m
  | _, _ => false
def sameT : Option Tmp → Option Tmp → Bool
  | none, none => true
  | some a, some b => Nat.beq a b
  | _, _ => false
def slotsIn (t : T AV) : Fr → Bool
  | [] => true
  | (i, v) :: l => sameO (t.get i) (some v) && slotsIn t l
def coversF (x : MF) (y : LF) : Bool := Nat.beq x.f y.f && Nat.beq x.N y.N && sameD x.a.defers y.ds && sameK x.k y.k && slotsIn x.a.tmps y.l
def coversS : List (Option Tmp × MF) → List (Option Tmp × LF) → Bool
  | [], [] => true
  | (d, x) :: l, (e, y) :: m => sameT d e && coversF x y && coversS l m
  | _, _ => false
def sameM : List (AV × AV) → List (AV × AV) → Bool
  | [], [] => true
  | (a, b) :: l, (c, d) :: m => AV.same a c && AV.same b d && sameM l m
  | _, _ => false
def cellsIn (t : T AV) : Nat → List AV → Bool
  | _, [] => true
  | i, v :: l => sameO (t.get i) (some v) && cellsIn t (i + 1) l
def coversO : Option AObj → LO → Bool
  | some (.row n t e), .row l e' => Nat.beq n l.length && Nat.beq e e' && cellsIn t 0 l
  | some (.map es), .map es' => sameM es es'
  | some (.glob t), .glob l => cellsIn t 0 l
  | some (.obj .dfr), .dfr => true
  | _, _ => false
def coversH (h : AHeap) : List (Nat × LO) → Bool
  | [] => true
  | (b, o) :: l => coversO (h.get b) o && coversH h l
/-- the state has what the text says -/
def covers (S : MS) (L : LS) : Bool := coversF S.top L.top && coversS S.st L.st && Nat.beq S.h.next L.next && sameN S.h.ex L.ex && coversH S.h L.obs
def pieceM (P : Program) (both : BothF) (lf : Nat) (A : LS) (l : List MI) (B : LS) : Bool := match runM P both lf l A.ms with
  | some S => covers S B
  | none => false
def endM (P : Program) (both : BothF) (lf : Nat) (A : LS) (l : List MI) : Bool := match runM P both lf l A.ms with
  | some S => lastM P S
  | none => false
end
end Go.Proofs.Ytikaeeaepnflnaa.Abs
/- Runs cut into pieces: what they say is so. -/
namespace Go.Proofs.Ytikaeeaepnflnaa.Abs
noncomputable section
open Go.RowKit

section
variable {P : Program} {n : Nat} {F : Fence}
/-- within a loop -/
def InLW (P : Program) (c : Code) (Q : Exit → Act → World → Prop) (act : Act) (w : World) : Prop :=
  ∀ (b : Frame) (k : List Item) (cs : List Frame), b.roundOf = Fence.wide.round → Fence.wide.fn b.fn → Fence.wide.room (cs.length + 1 + 0) →
    ∃ e a' w', Q e a' w' ∧ ArrivesIn (Machine.fenced P Fence.wide) P (lone (b.atR act (.code c :: .inLoop c :: k)) cs w) b k cs e a' w'
theorem InLW.round {c : Code} {Q : Exit → Act → World → Prop} {act : Act} {w : World} (hk : c.wpIn Fence.wide 0 P (Exit.then (InLW P c Q) Q) act w) : InLW P c Q act w := by
  intro b k cs hro hb hr
  obtain ⟨e1, a1, w1, hq, harr⟩ := hk b (.inLoop c :: k) cs hro hb hr
  cases e1 with
  | normal =>
    obtain ⟨e3, a3, w3, hq3, harr3⟩ := hq b k cs hro hb hr
    exact ⟨e3, a3, w3, hq3, .of_steps (StepsIn.trans harr (.one (fenced_calm hb hr rfl) stepR_inLoop)) harr3⟩
  | exit id => exact ⟨_, a1, w1, hq, .pass (x := .inLoop c) rfl (fun _ _ => .inl (by simp)) harr⟩
  | goto l => exact ⟨_, a1, w1, hq, .pass (x := .inLoop c) rfl (fun _ _ => .inl (by simp)) harr⟩
  | ret => exact ⟨_, a1, w1, hq, .pass (x := .inLoop c) rfl (fun _ _ => .inl (by simp)) harr⟩
  | panic ch => exact ⟨_, a1, w1, hq, .pass (x := .inLoop c) rfl (fun _ _ => .inl (by simp)) harr⟩
  | outgrown => exact ⟨_, a1, w1, hq, .pass (x := .inLoop c) rfl (fun _ _ => .inl (by simp)) harr⟩
theorem loopW {c : Code} {Q : Exit → Act → World → Prop} {act : Act} {w : World} (hk : InLW P c Q act w) : (Code.loop c).wpIn Fence.wide 0 P Q act w := by
  intro b k cs hro hb hr
  obtain ⟨e, a', w', q, r⟩ := hk b k cs hro hb hr
  exact ⟨e, a', w', q, .of_steps (.one (fenced_calm hb hr rfl) stepR_loop) r⟩
theorem uponIn_mono {o : Oper} {a : Act} {next next' : Act → World → Prop} {Q Q' : Exit → Act → World → Prop} {r : Result Next} (hn : ∀ a w, next a w → next' a w) (hQ : ∀ e a w, e ≠ .normal → Q e a w → Q' e a w) (h : o.uponIn F n P a next Q r) : o.uponIn F n P a next' Q' r := by
  cases r with
  | ok x w' => cases x with
    | value v => exact hn _ _ h
    | skip => exact hn _ _ h
    | defer d => exact hn _ _ h
    | enter f args =>
      refine ⟨h.1, CallsIn.mono h.2 ?_⟩
      intro e w2 he
      cases e with
      | returned v => exact hn _ _ he
      | panicked c => exact hQ _ _ _ (by simp) he
      | outgrown => obtain ⟨a2, w3, q⟩ := he; exact ⟨a2, w3, hQ _ _ _ (by simp) q⟩
    | row row args =>
      refine ⟨h.1, fun c cs hr => ?_⟩
      obtain ⟨v, w2, r2, s⟩ := h.2 c cs hr
      exact ⟨v, w2, hn _ _ r2, s⟩
    | round l f tmps assign body =>
      refine ⟨h.1, RoundIn.mono h.2 ?_⟩
      intro e w2 he
      cases e with
      | returned v => exact hn _ _ he
      | panicked c => exact hQ _ _ _ (by simp) he
      | outgrown => obtain ⟨a2, w3, q⟩ := he; exact ⟨a2, w3, hQ _ _ _ (by simp) q⟩
    | _ => exact h.elim
  | halt e w' => cases e with
    | panic v => exact hQ _ _ _ (by simp) h
    | _ => exact h.elim
theorem listIn_app {ops : Array Oper} {l2 : List Oper} {Q1 Q : Exit → Act → World → Prop} (hq : ∀ e a w, Q1 e a w → Exit.then (wpListIn F n P ops Q l2) Q e a w) : ∀ (l1 : List Oper) (a : Act) (w : World), wpListIn F n P ops Q1 l1 a w → wpListIn F n P ops Q (l1 ++ l2) a w
  | [], a, w, h => hq .normal a w h
  | o :: l1, a, w, h => by
    rw [wpListIn] at h
    rw [List.cons_append, wpListIn]
    split at h
    · rename_i hw
      rw [if_pos hw]
      refine ⟨h.1, uponIn_mono (fun a w h => listIn_app hq l1 a w h) (fun e a w hne q => ?_) h.2⟩
      have := hq e a w q
      cases e with
      | normal => exact absurd rfl hne
      | _ => exact this
    · rename_i hw
      rw [if_neg hw]
      exact ⟨h.1, listIn_app hq l1 _ w h.2⟩
end

section
variable {P : Program}
/-- a function leaves: marks and calls put off, in whatever order -/
def LeavesX (P : Program) (fn : Func) (tmps : Array Value) (R : Ending → World → Prop) : List Deferred → FrameMode → World → Prop
  | [], u, w => Leaves P fn tmps R [] u w
  | d :: ds, u, w => u ≠ .run ∧
      ((∃ r w', d.target = .collected r ∧ (Instr.takeDeferred r).run P w = .ok [] w' ∧ LeavesX P fn tmps R ds u w') ∨
       (∃ fv cap f args, d.target = .fn fv cap ∧ (invoke d.target d.args).run P w = .ok (.enter f args) w ∧
        CallsD P f args u w fun
          | .returned _, u', w' => LeavesX P fn tmps R ds (settle u') w'
          | .panicked chain, u', w' => LeavesX P fn tmps R ds (raised u' chain) w'
          | .outgrown, _, w' => R .outgrown w'))
theorem leaves_stepsX {fn : Func} {tmps : Array Value} {R : Ending → World → Prop} : ∀ (ds : List Deferred) (u : FrameMode) (w : World) (fr : Frame)
    (cs : List Frame), fr.mode = u → fr.defers = ds → fr.tmps = tmps → P.funcs[fr.fn]? = some fn → fr.kind = .normal → LeavesX P fn tmps R ds u w →
    ∃ e w' fr', R e w' ∧ Comes P (lone fr cs w) (lone fr' cs w') e ∧ fr'.fn = fr.fn ∧ fr'.leaving P w' e := by
  intro ds
  induction ds with
  | nil => exact fun u w fr cs hu hd ht hf hk h => leaves_steps [] u w fr cs hu hd ht hf hk h
  | cons d ds ih =>
    intro u w fr cs hu hd ht hf hk h
    obtain ⟨hrun, h⟩ := h
    rcases h with ⟨r, w', htar, htake, hrest⟩ | ⟨fv, cap, f, args, htar, hinv, hcall⟩
    · have h1 := step_collected (cs := cs) (hu ▸ hrun) hd htar htake
      obtain ⟨e', w'', fr', hR', hs', hfn', hl'⟩ := ih u w' { fr with defers := [] ++ ds } cs hu rfl ht hf hk hrest
      exact ⟨e', w'', fr', hR', Comes.of_steps (.one h1) hs', hfn', hl'⟩
    · have h1 := step_defer (cs := cs) (hu ▸ hrun) hd htar hinv
      obtain ⟨e, u', w', frX, hR, hsteps, hkX, hgo⟩ := hcall { fr with defers := ds } cs hu
      cases e with
      | returned v =>
        have h2 := step_going_returned (c := { { fr with defers := ds } with mode := u' }) (cs := cs) hkX hgo
        obtain ⟨e', w'', fr', hR', hs', hfn', hl'⟩ := ih (settle u') w' { { { fr with defers := ds } with mode := u' } with mode := settle u' } cs rfl rfl ht hf hk hR
        exact ⟨e', w'', fr', hR', Comes.of_steps (.head h1 (Steps.trans hsteps (.one h2))) hs', hfn', hl'⟩
      | panicked chain =>
        have h2 := step_going_panicked (c := { { fr with defers := ds } with mode := u' }) (cs := cs) hgo
        obtain ⟨e', w'', fr', hR', hs', hfn', hl'⟩ := ih (raised u' chain) w' { { { fr with defers := ds } with mode := u' } with mode := raised u' chain } cs rfl rfl ht hf hk hR
        exact ⟨e', w'', fr', hR', Comes.of_steps (.head h1 (Steps.trans hsteps (.one h2))) hs', hfn', hl'⟩
      | outgrown => exact ⟨.outgrown, w', fr, hR, Outgrown.of_steps (.one h1) hsteps, rfl, trivial⟩
theorem LeavesX.mono {fn : Func} {tmps : Array Value} {R R' : Ending → World → Prop} (hr : ∀ e w, R e w → R' e w) : ∀ (ds : List Deferred) (u : FrameMode) (w : World), LeavesX P fn tmps R ds u w → LeavesX P fn tmps R' ds u w := by
  intro ds
  induction ds with
  | nil => exact fun u w h => Leaves.mono hr [] u w h
  | cons d ds ih =>
    intro u w h
    obtain ⟨h1, h2⟩ := h
    refine ⟨h1, ?_⟩
    rcases h2 with ⟨g, w', k1, k2, k3⟩ | ⟨fv, cap, f, args, k1, k2, k3⟩
    · exact .inl ⟨g, w', k1, k2, ih _ _ k3⟩
    · refine .inr ⟨fv, cap, f, args, k1, k2, CallsD.mono k3 ?_⟩
      intro e u' w' he
      cases e with
      | returned v => exact ih _ _ he
      | panicked chain => exact ih _ _ he
      | outgrown => exact hr _ _ he
def bodyPostX (P : Program) (fn : Func) (R : Ending → World → Prop) : Exit → Act → World → Prop
  | .normal, a, w | .ret, a, w => LeavesX P fn a.tmps R a.defers .returning w
  | .panic chain, a, w => LeavesX P fn a.tmps R a.defers (.panicking chain) w
  | .outgrown, _, w => R .outgrown w
  | _, _, _ => False
theorem calls_of_wp_X {f : FuncId} {fn : Func} {c : Code} {args : Array Value} {w : World} {R : Ending → World → Prop}
    (hf : P.funcs[f]? = some fn) (hb : fn.body = some c)
    (h : c.wp P (bodyPostX P fn R) { tmps := args ++ Array.replicate (fn.ntmps - args.size) undef, defers := [] } w) : Calls P f args w R := by
  intro cs
  let b : Frame := { (default : Frame) with fn := f, kind := .normal }
  have henter : Frame.enter P f args .normal =
      b.at { tmps := args ++ Array.replicate (fn.ntmps - args.size) undef, defers := [] } [.code c] := by
    simp [Frame.enter, Frame.at, hf, hb, b]
  obtain ⟨e, a', w', hq, harr⟩ := h b [] cs
  rw [← henter] at harr
  cases e with
  | normal =>
    obtain ⟨e', w'', fr', hR, hs, hfn, hl⟩ := leaves_stepsX a'.defers .returning w' { b.at a' [] with mode := .returning } cs rfl rfl rfl hf rfl hq
    exact ⟨e', w'', fr', hR, Comes.of_steps (Steps.trans harr (.one step_end)) hs, hfn, hl⟩
  | ret =>
    obtain ⟨todo, hs₀⟩ := harr
    obtain ⟨e', w'', fr', hR, hs, hfn, hl⟩ := leaves_stepsX a'.defers .returning w' { b.at a' todo with mode := .returning } cs rfl rfl rfl hf rfl hq
    exact ⟨e', w'', fr', hR, Comes.of_steps hs₀ hs, hfn, hl⟩
  | panic chain =>
    obtain ⟨todo, hs₀⟩ := harr
    obtain ⟨e', w'', fr', hR, hs, hfn, hl⟩ := leaves_stepsX a'.defers (.panicking chain) w' { b.at a' todo with mode := .panicking chain } cs rfl rfl rfl hf rfl hq
    exact ⟨e', w'', fr', hR, Comes.of_steps hs₀ hs, hfn, hl⟩
  | exit id => exact hq.elim
  | goto l => exact hq.elim
  | outgrown => exact ⟨.outgrown, w', b, hq, harr.resolve_left (by simp [b]), rfl, trivial⟩
theorem dsM_ok (hm : P.follows .mixedOrders = true) {w0 : Base} {call : CallF} {lf : Nat} (hc : CallOK P w0 call) {fn : Func} {a : AAct} {act : Act} {r : ARes} {h' : AHeap} : ∀ (ds : List (FuncId × List AV × List AV)) (u : Option AV) (h : AHeap), dsM P call lf fn a ds u h = some (r, h') →
    ∀ (m : Map) (ds' : List Deferred) (mode : FrameMode) (w : World), (∀ t, Slot m a act t) → RelD m ds ds' → RelU m u mode → Fits w0 m h w → LeavesX P fn act.tmps (RetOK w0 m h' r) ds' mode w := by
  intro ds
  induction ds with
  | nil =>
    intro u h hr m ds' mode w hs hds hu F
    have := hds.nil_eq
    subst this
    cases hu with
    | ret =>
      simp only [dsM] at hr
      obtain ⟨v, v', rfl, rfl, hrun, hv⟩ := results_ok hs F hr
      exact ⟨v', hrun, m, Ext.refl m, F, v', rfl, hv⟩
    | @panic v v' hv =>
      simp only [dsM, Option.some.injEq, Prod.mk.injEq] at hr
      obtain ⟨rfl, rfl⟩ := hr
      exact ⟨m, Ext.refl m, F, v', rfl, hv⟩
  | cons d ds ih =>
    intro u h hr m ds' mode w hs hds hu F
    obtain ⟨f, args, cap⟩ := d
    have hmode : mode ≠ .run := by cases hu <;> simp
    simp only [dsM] at hr
    split at hr
    · rename_i hmk
      split at hr
      · rename_i D
        split at hr
        · rename_i hb
          cases hds with
          | mark hmD hrest =>
            obtain ⟨ht, F2⟩ := takeMark (P := P) F hb hmD
            exact ⟨hmode, .inl ⟨_, _, rfl, ht, ih _ _ hr m _ _ _ hs hrest hu F2⟩⟩
          | cons k1 k2 k3 =>
            cases k2 with | cons k _ => cases k
        · cases hr
      · cases hr
    · rename_i hmk
      cases hds with
      | mark _ _ => cases hmk
      | @cons f args cap args' cap' _ l' h1 h2 h3 =>
      split at hr
      · rename_i u2 h2' hd
        obtain ⟨hbody, hcall⟩ := callD_ok hm hc hd (h1.append h2) hu F
        refine ⟨hmode, .inr ⟨.func f, ⟨cap'⟩, f, ⟨args' ++ cap'⟩, rfl, ?_, CallsD.mono hcall ?_⟩⟩
        · simp only [invoke]
          have : (⟨args'⟩ ++ ⟨cap'⟩ : Array Value) = ⟨args' ++ cap'⟩ := by simp
          rw [this]
          exact hasBody_ok hbody _ w
        · rintro e u' w' ⟨⟨v, rfl⟩, m', hx, F', hu'⟩
          exact LeavesX.mono (fun e w he => he.ext hx) _ _ _ (ih u2 h2' hr m' l' (settle u') w' (fun t => (hs t).mono hx.le) (h3.mono hx.le) hu' F')
      · cases hr
theorem noDeferL_mem {l : List Oper} (h : noDeferL l = true) {o : Oper} (ho : o ∈ l) : ∀ c, o.op ≠ .defer c := by
  intro c e
  have := List.all_eq_true.1 h o ho
  rw [e] at this
  cases this
end
section
variable {P : Program} {w0 : Base} {R0 : Ending → World → Prop} {both : BothF} {lf : Nat}
/-- what a frame has yet to do -/
def QK (P : Program) (c : Code) : List KI → (Exit → Act → World → Prop) → (Exit → Act → World → Prop)
  | [], Q => Q
  | .code p :: k, Q => Exit.then ((codeAt c p).wpIn Fence.wide 0 P (QK P c k Q)) (QK P c k Q)
  | .inBlock id :: k, Q => Exit.inBlock id (QK P c k Q)
  | .inLoop p :: k, Q => Exit.then (InLW P (codeAt c p) (QK P c k Q)) (QK P c k Q)
  | .ops p j :: k, Q => Exit.then (wpListIn Fence.wide 0 P (opsIn (codeAt c p)) (QK P c k Q) ((opsIn (codeAt c p)).toList.drop j)) (QK P c k Q)
/-- at a function's end -/
def Bo (P : Program) (f : FuncId) (R : Ending → World → Prop) : Exit → Act → World → Prop := match P.funcs[f]? with
  | some fn => bodyPostX P fn R
  | none => fun _ _ _ => False
theorem Bo.ret {f : FuncId} {R : Ending → World → Prop} {a : Act} {w : World} (h : Bo P f R .normal a w) : Bo P f R .ret a w := by
  revert h
  unfold Bo
  cases P.funcs[f]? with
  | none => exact id
  | some fn => exact id
/-- the frames that wait -/
def KRs (P : Program) (R0 : Ending → World → Prop) : List (Option Tmp × MF) → List Act → Ending → World → Prop
  | (d, fr) :: st, act :: acts => fun
    | .returned v, w => QK P (bodyAt P fr.f) fr.k (Bo P fr.f (KRs P R0 st acts)) .normal (act.put d v) w
    | .panicked c, w => QK P (bodyAt P fr.f) fr.k (Bo P fr.f (KRs P R0 st acts)) (.panic c) act w
    | .outgrown, _ => LetsOut (QK P (bodyAt P fr.f) fr.k (Bo P fr.f (KRs P R0 st acts)))
  | _, _ => R0
inductive StRel (m : Map) : List (Option Tmp × MF) → List Act → Prop
  | nil : StRel m [] []
  | cons {d : Option Tmp} {fr : MF} {act : Act} {st : List (Option Tmp × MF)} {acts : List Act} (h : RelAct m fr.N fr.a act) (k : StRel m st acts) : StRel m ((d, fr) :: st) (act :: acts)
theorem StRel.mono {m m' : Map} (hm : Map.le m m') {st : List (Option Tmp × MF)} {acts : List Act} (h : StRel m st acts) : StRel m' st acts := by
  induction h with
  | nil => exact .nil
  | cons h _ ih => exact .cons (h.mono hm) ih
/-- from this state on it comes to R0 -/
def RunsM (P : Program) (w0 : Base) (R0 : Ending → World → Prop) (S : MS) : Prop := ∀ (m : Map) (acts : List Act) (act : Act) (w : World), StRel m S.st acts → RelAct m S.top.N S.top.a act → Fits w0 m S.h w →
  QK P (bodyAt P S.top.f) S.top.k (Bo P S.top.f (KRs P R0 S.st acts)) .normal act w

variable {c : Code} {Q : Exit → Act → World → Prop} {act : Act} {w : World}
theorem exitK_ok {id : Nat} : ∀ {k k' : List KI}, exitK id k = some k' → QK P c k' Q .normal act w → QK P c k Q (.exit id) act w
  | [], _, h, _ => by cases h
  | .inBlock i :: k, k', h, hq => by
    unfold exitK at h
    show Exit.inBlock i (QK P c k Q) (.exit id) act w
    split at h
    · rename_i hb
      have := Nat.eq_of_beq_eq_true hb
      subst this
      simp only [Option.some.injEq] at h
      subst h
      simp only [Exit.inBlock, if_true]
      exact hq
    · rename_i hb
      have hne : id ≠ i := fun e => by subst e; rw [Nat.beq_refl] at hb; cases hb
      simp only [Exit.inBlock, hne, if_false]
      exact exitK_ok h hq
  | .code p :: k, k', h, hq => by
    show QK P c k Q (.exit id) act w
    exact exitK_ok (by simpa only [exitK] using h) hq
  | .inLoop p :: k, k', h, hq => by
    show QK P c k Q (.exit id) act w
    exact exitK_ok (by simpa only [exitK] using h) hq
  | .ops p j :: k, k', h, hq => by
    show QK P c k Q (.exit id) act w
    exact exitK_ok (by simpa only [exitK] using h) hq
theorem retK_ok : ∀ {k : List KI}, Q .ret act w → QK P c k Q .ret act w
  | [], h => h
  | .inBlock _ :: k, h => retK_ok (k := k) h
  | .code _ :: k, h => retK_ok (k := k) h
  | .inLoop _ :: k, h => retK_ok (k := k) h
  | .ops _ _ :: k, h => retK_ok (k := k) h
theorem contE_ok {e : AExit} {e' : Exit} {m : Map} {k k' : List KI} (h : contE k e = some k') (he : RelExit m e e') (hr : Q .normal act w → Q .ret act w) (hq : QK P c k' Q .normal act w) : QK P c k Q e' act w := by
  cases he with
  | normal =>
    simp only [contE, Option.some.injEq] at h
    subst h
    exact hq
  | exit id => exact exitK_ok h hq
  | goto l => cases h
  | ret =>
    simp only [contE, Option.some.injEq] at h
    subst h
    exact retK_ok (hr hq)
  | panic _ => cases h

theorem panicK_ok {P : Program} {c : Code} {Q : Exit → Act → World → Prop} {ch : List PanicEntry} {act : Act} {w : World} : ∀ {k : List KI}, Q (.panic ch) act w → QK P c k Q (.panic ch) act w
  | [], h => h
  | .code _ :: k, h => panicK_ok (k := k) h
  | .inBlock _ :: k, h => panicK_ok (k := k) h
  | .inLoop _ :: k, h => panicK_ok (k := k) h
  | .ops _ _ :: k, h => panicK_ok (k := k) h
theorem fallM_ok (hm : P.follows .mixedOrders = true) {call : CallF} (hc : CallOK P w0 call) {S' : MS} (hS : RunsM P w0 R0 S') : ∀ (st : List (Option Tmp × MF)) (top : MF) (v : AV) (h : AHeap), fallM P call lf st top v h = some S' →
    ∀ (m : Map) (acts : List Act) (act : Act) (w : World) (v' : Value), StRel m st acts → RelAct m top.N top.a act → Fits w0 m h w → Rel m v v' → Bo P top.f (KRs P R0 st acts) (.panic [{ v := v', recovered := false }]) act w
  | [], _, _, _, h => by cases h
  | (d, fr) :: st, top, v, h, hf => by
    intro m acts act w v' hst hra F hv
    unfold fallM at hf
    cases hst with | @cons _ _ act2 _ acts2 hr2 hst2 =>
    split at hf
    · rename_i fn hfn
      unfold Bo
      rw [hfn]
      split at hf
      · rename_i x h2 hds
        split at hf
        · rename_i hd
          simp only [Option.some.injEq] at hf; subst hf
          have hd' : ∀ t, d = some t → t < fr.N := by
            intro t ht
            subst ht
            exact Nat.le_of_ble_eq_true hd
          refine LeavesX.mono ?_ _ _ _ (dsM_ok hm hc _ _ _ hds m _ _ w hra.tmps hra.defers (.panic hv) F)
          rintro e w2 ⟨m2, hx2, F2, v2, rfl, hv2⟩
          exact hS m2 acts2 _ w2 (hst2.mono hx2.le) ((hr2.mono hx2.le).put1 hd' hv2) F2
        · cases hf
      · rename_i x h2 hds
        refine LeavesX.mono ?_ _ _ _ (dsM_ok hm hc _ _ _ hds m _ _ w hra.tmps hra.defers (.panic hv) F)
        rintro e w2 ⟨m2, hx2, F2, v2, rfl, hv2⟩
        exact panicK_ok (fallM_ok hm hc hS st fr x h2 hf m2 acts2 act2 w2 v2 (hst2.mono hx2.le) (hr2.mono hx2.le) F2 hv2)
      · cases hf
    · cases hf
theorem opnM_ok {S S' : MS} {p : List Nat} {k : List KI} (hk : S.top.k = .code p :: k) (h : opnM S p k (codeAt (bodyAt P S.top.f) p) = some S') (hS : RunsM P w0 R0 S') : RunsM P w0 R0 S := by
  intro m acts act w hst hra F
  rw [hk]
  show (codeAt (bodyAt P S.top.f) p).wpIn Fence.wide 0 P (QK P (bodyAt P S.top.f) k (Bo P S.top.f (KRs P R0 S.st acts))) act w
  generalize hc : codeAt (bodyAt P S.top.f) p = cc at h ⊢
  unfold opnM at h
  split at h
  · simp only [Option.some.injEq] at h; subst h
    exact wpIn_skip (hS m acts act w hst hra F)
  · rename_i x y
    simp only [Option.some.injEq] at h; subst h
    have := hS m acts act w hst hra F
    refine wpIn_seq ?_
    have hx : codeAt (bodyAt P S.top.f) (0 :: p) = x := by simp only [codeAt, hc, childAt]
    have hy : codeAt (bodyAt P S.top.f) (1 :: p) = y := by simp only [codeAt, hc, childAt]
    have this : (codeAt (bodyAt P S.top.f) (0 :: p)).wpIn Fence.wide 0 P (QK P (bodyAt P S.top.f) (.code (1 :: p) :: k) (Bo P S.top.f (KRs P R0 S.st acts))) act w := this
    rw [hx] at this
    rw [← hy]
    exact this
  · rename_i cv x y
    have hx : codeAt (bodyAt P S.top.f) (0 :: p) = x := by simp only [codeAt, hc, childAt]
    have hy : codeAt (bodyAt P S.top.f) (1 :: p) = y := by simp only [codeAt, hc, childAt]
    split at h
    · rename_i hcv
      simp only [Option.some.injEq] at h; subst h
      have := rel_bool (eval_ok (m := m) (act := act) (fun t _ => hra.tmps t) _ hcv)
      refine wpIn_cond_true this ?_
      rw [← hx]
      exact hS m acts act w hst hra F
    · rename_i hcv
      simp only [Option.some.injEq] at h; subst h
      have := rel_bool (eval_ok (m := m) (act := act) (fun t _ => hra.tmps t) _ hcv)
      refine wpIn_cond_false this ?_
      rw [← hy]
      exact hS m acts act w hst hra F
    · cases h
  · rename_i id x
    simp only [Option.some.injEq] at h; subst h
    have hx : codeAt (bodyAt P S.top.f) (0 :: p) = x := by simp only [codeAt, hc, childAt]
    refine wpIn_block ?_
    rw [← hx]
    exact hS m acts act w hst hra F
  · rename_i x
    simp only [Option.some.injEq] at h; subst h
    have hx : codeAt (bodyAt P S.top.f) (0 :: p) = x := by simp only [codeAt, hc, childAt]
    refine loopW (InLW.round ?_)
    rw [← hx]
    exact hS m acts act w hst hra F
  · rename_i id ops
    split at h
    · simp only [Option.some.injEq] at h; subst h
      refine wpIn_region_list ?_
      have := hS m acts act w hst hra F
      have this : wpListIn Fence.wide 0 P (opsIn (codeAt (bodyAt P S.top.f) p)) (QK P (bodyAt P S.top.f) k (Bo P S.top.f (KRs P R0 S.st acts))) ((opsIn (codeAt (bodyAt P S.top.f) p)).toList.drop 0) act w := this
      rw [hc, List.drop_zero] at this
      exact this
    · cases h
  · rename_i id
    split at h
    · rename_i k' hk'
      simp only [Option.some.injEq] at h; subst h
      exact wpIn_exit (exitK_ok hk' (hS m acts act w hst hra F))
    · cases h
  · simp only [Option.some.injEq] at h; subst h
    exact wpIn_ret (retK_ok (Bo.ret (hS m acts act w hst hra F)))
  · cases h
theorem stepM_ok (hm : P.follows .mixedOrders = true) (hb : BothOK P w0 both) {S S' : MS} {i : MI} (h : stepM P both lf S i = some S') (hS : RunsM P w0 R0 S') : RunsM P w0 R0 S := by
  unfold stepM at h
  split at h
  · -- at once
    split at h
    · rename_i p k hk
      intro m acts act w hst hra F
      rw [hk]
      show (codeAt (bodyAt P S.top.f) p).wpIn Fence.wide 0 P (QK P (bodyAt P S.top.f) k (Bo P S.top.f (KRs P R0 S.st acts))) act w
      unfold goE at h
      split at h
      · rename_i e a' h' hcode
        split at h
        · rename_i k' hk'
          simp only [Option.some.injEq] at h; subst h
          refine wpIn_mono (codeR_ok (N := S.top.N) (rb := none) (lf := lf) hm hb _ _ _ _ _ _ hcode none 0 m act w trivial hra F) ?_
          rintro e' act2 w2 ⟨m2, hx2, hra2, F2, hex⟩
          exact contE_ok hk' hex Bo.ret (hS m2 acts act2 w2 (hst.mono hx2.le) hra2 F2)
        · cases h
      · cases h
    · cases h
  · -- opened
    split at h
    · rename_i p k hk
      exact opnM_ok hk h hS
    · cases h
  · -- operations
    rename_i n
    split at h
    · rename_i p j k hk
      split at h
      · rename_i hok
        rw [Bool.and_eq_true] at hok
        split at h
        · rename_i a' h' hops
          simp only [Option.some.injEq] at h; subst h
          intro m acts act w hst hra F
          rw [hk]
          show wpListIn Fence.wide 0 P (opsIn (codeAt (bodyAt P S.top.f) p)) (QK P (bodyAt P S.top.f) k (Bo P S.top.f (KRs P R0 S.st acts))) ((opsIn (codeAt (bodyAt P S.top.f) p)).toList.drop j) act w
          have hsplit : ∀ ops : Array Oper, ops.toList.drop j = (ops.toList.drop j).take n ++ ops.toList.drop (j + n) := fun ops => by
            rw [← List.drop_drop, List.take_append_drop]
          rw [hsplit]
          have hmem : ∀ o ∈ ((opsIn (codeAt (bodyAt P S.top.f) p)).toList.drop j).take n, o ∈ (opsIn (codeAt (bodyAt P S.top.f) p)).toList := fun o ho => List.mem_of_mem_drop (List.mem_of_mem_take ho)
          refine listIn_app ?_ _ _ _ (opsR_ok (rd := none) (n := 0) hb _ (fun o ho => okOps_mem _ hok.1 o (hmem o ho)) (fun o ho => noDeferL_mem hok.2 ho) m S.top.a act S.h w (Ext.refl m) hra F hops)
          rintro e act2 w2 ⟨m2, hx2, hra2, F2, hex⟩
          cases hex
          exact hS m2 acts act2 w2 (hst.mono hx2.le) hra2 F2
        · cases h
      · cases h
    · cases h
  · -- a call
    split at h
    · rename_i p j k hk
      split at h
      · rename_i o l hl
        split at h
        · cases h
        · rename_i hnd
          split at h
          · rename_i hw
            intro m acts act w hst hra F
            rw [hk]
            show wpListIn Fence.wide 0 P (opsIn (codeAt (bodyAt P S.top.f) p)) (QK P (bodyAt P S.top.f) k (Bo P S.top.f (KRs P R0 S.st acts))) ((opsIn (codeAt (bodyAt P S.top.f) p)).toList.drop j) act w
            unfold callM at h
            split at h
            · rename_i g args h1 hop
              split at h
              · rename_i fn hf
                split at h
                · rename_i cb hcb
                  split at h
                  · rename_i hcond
                    rw [Bool.and_eq_true] at hcond
                    simp only [Option.some.injEq] at h; subst h
                    have hlen := Nat.le_of_ble_eq_true hcond.1
                    rw [hl, wpListIn, wanted_ok (fun t _ => hra.tmps t) hw]
                    simp only [if_true]
                    refine ⟨fun _ _ => trivial, ?_⟩
                    rw [Oper.semAt_eq _ _ _ hnd]
                    obtain ⟨m1, w1, hx1, F1, args', hrun, hargs⟩ := opA_ok F o (fun x _ v hv => eval_ok (fun t _ => hra.tmps t) v hv) hop
                    rw [hrun]
                    refine ⟨fun hh => (by cases hh), ?_⟩
                    have hl' := hargs.length
                    have hra1 : RelAct m1 fn.ntmps ⟨T.put .e 0 args, []⟩ { tmps := (⟨args'⟩ : Array Value) ++ Array.replicate (fn.ntmps - (⟨args'⟩ : Array Value).size) undef, defers := [] } := {
                      size := by simp; omega
                      tmps := fun t v hv => by
                        simp only [T.get_put] at hv
                        split at hv
                        · rename_i hin
                          simp only [Nat.sub_zero] at hv
                          obtain ⟨y, hy, hr⟩ := hargs.get t v hv
                          have ht : t < args'.length := by omega
                          refine ⟨y, ?_, hr⟩
                          simp only
                          rw [Array.getElem?_append_left (by simpa using ht)]
                          simpa using hy
                        · rw [T.get_e] at hv; cases hv
                      defers := .nil }
                    have hgo := hS m1 (act :: acts) _ w1 (.cons (hra.mono hx1.le) (hst.mono hx1.le)) hra1 F1
                    have hbody : bodyAt P g = cb := by simp only [bodyAt, hf, hcb, Option.getD_some]
                    have hgo : (bodyAt P g).wpIn Fence.wide 0 P (Bo P g (KRs P R0 ((o.dst, ⟨S.top.f, S.top.N, S.top.a, .ops p (j + 1) :: k⟩) :: S.st) (act :: acts))) _ w1 := hgo
                    rw [hbody] at hgo
                    have hBo : Bo P g (KRs P R0 ((o.dst, ⟨S.top.f, S.top.N, S.top.a, .ops p (j + 1) :: k⟩) :: S.st) (act :: acts)) = bodyPostX P fn (KRs P R0 ((o.dst, ⟨S.top.f, S.top.N, S.top.a, .ops p (j + 1) :: k⟩) :: S.st) (act :: acts)) := by
                      unfold Bo
                      rw [hf]
                    rw [hBo] at hgo
                    refine CallsIn.mono (callsIn_wide.2 (calls_of_wp_X hf hcb (wpIn_wide.1 hgo))) ?_
                    have hdrop : (opsIn (codeAt (bodyAt P S.top.f) p)).toList.drop (j + 1) = l := by
                      rw [← List.drop_drop, hl]
                      rfl
                    intro e w2 he
                    cases e with
                    | returned v =>
                      have he : wpListIn Fence.wide 0 P (opsIn (codeAt (bodyAt P S.top.f) p)) (QK P (bodyAt P S.top.f) k (Bo P S.top.f (KRs P R0 S.st acts))) ((opsIn (codeAt (bodyAt P S.top.f) p)).toList.drop (j + 1)) (act.put o.dst v) w2 := he
                      rw [hdrop] at he
                      exact he
                    | panicked ch => exact he
                    | outgrown => exact he
                  · cases h
                · cases h
              · cases h
            · cases h
          · cases h
      · cases h
    · cases h
  · -- a call put off
    split at h
    · rename_i p j k hk
      split at h
      · rename_i o l hl
        split at h
        · rename_i hw
          intro m acts act w hst hra F
          rw [hk]
          show wpListIn Fence.wide 0 P (opsIn (codeAt (bodyAt P S.top.f) p)) (QK P (bodyAt P S.top.f) k (Bo P S.top.f (KRs P R0 S.st acts))) ((opsIn (codeAt (bodyAt P S.top.f) p)).toList.drop j) act w
          unfold dfrM at h
          split at h
          · rename_i g args cap h1 hop
            split at h
            · rename_i hdst
              simp only [Option.some.injEq] at h; subst h
              rw [hl, wpListIn, wanted_ok (fun t _ => hra.tmps t) hw]
              simp only [if_true]
              refine ⟨fun _ _ => trivial, ?_⟩
              have hsem : Oper.semAt Fence.wide.round act.eval o = execOp act.eval o := Oper.semAt_none _ _
              rw [hsem]
              obtain ⟨m1, w1, hx1, F1, args', cap', hrun, hargs, hcap⟩ := opA_ok F o (fun x _ v hv => eval_ok (fun t _ => hra.tmps t) v hv) hop
              rw [hrun, Oper.uponIn_defer]
              have hdrop : (opsIn (codeAt (bodyAt P S.top.f) p)).toList.drop (j + 1) = l := by
                rw [← List.drop_drop, hl]
                rfl
              have hra0 : RelAct m1 S.top.N ⟨S.top.a.tmps, (g, args, cap) :: S.top.a.defers⟩ { act with defers := { target := .fn (.func g) ⟨cap'⟩, args := ⟨args'⟩ } :: act.defers } := {
                size := hra.size
                tmps := (hra.mono hx1.le).tmps
                defers := .cons hargs hcap ((hra.mono hx1.le).defers) }
              have hd' : ∀ t, o.dst = some t → t < S.top.N := by
                intro t ht
                unfold okDst at hdst
                rw [ht] at hdst
                exact Nat.le_of_ble_eq_true hdst
              have := hS m1 acts _ w1 (hst.mono hx1.le) (hra0.put1 hd' (v' := undef) (.tup .nil)) F1
              have this : wpListIn Fence.wide 0 P (opsIn (codeAt (bodyAt P S.top.f) p)) (QK P (bodyAt P S.top.f) k (Bo P S.top.f (KRs P R0 S.st acts))) ((opsIn (codeAt (bodyAt P S.top.f) p)).toList.drop (j + 1)) _ w1 := this
              rw [hdrop] at this
              exact this
            · cases h
          · cases h
        · cases h
      · cases h
    · cases h
  · -- a panic
    split at h
    · rename_i p k hk
      split at h
      · rename_i v a' h' hcode
        intro m acts act w hst hra F
        rw [hk]
        show (codeAt (bodyAt P S.top.f) p).wpIn Fence.wide 0 P (QK P (bodyAt P S.top.f) k (Bo P S.top.f (KRs P R0 S.st acts))) act w
        refine wpIn_mono (codeR_ok (N := S.top.N) (rb := none) (lf := lf) hm hb _ _ _ _ _ _ hcode none 0 m act w trivial hra F) ?_
        rintro e' act2 w2 ⟨m2, hx2, hra2, F2, hex⟩
        cases hex with | panic hv =>
        exact panicK_ok (fallM_ok hm hb.call hS _ _ _ _ h m2 acts act2 w2 _ (hst.mono hx2.le) hra2 F2 hv)
      · cases h
    · rename_i p j k hk
      split at h
      · rename_i hok
        rw [Bool.and_eq_true] at hok
        split at h
        · rename_i v a' h' hops
          intro m acts act w hst hra F
          rw [hk]
          show wpListIn Fence.wide 0 P (opsIn (codeAt (bodyAt P S.top.f) p)) (QK P (bodyAt P S.top.f) k (Bo P S.top.f (KRs P R0 S.st acts))) ((opsIn (codeAt (bodyAt P S.top.f) p)).toList.drop j) act w
          have hsplit : ∀ ops : Array Oper, ops.toList.drop j = (ops.toList.drop j).take 1 ++ ops.toList.drop (j + 1) := fun ops => by
            rw [← List.drop_drop, List.take_append_drop]
          rw [hsplit]
          have hmem : ∀ o ∈ ((opsIn (codeAt (bodyAt P S.top.f) p)).toList.drop j).take 1, o ∈ (opsIn (codeAt (bodyAt P S.top.f) p)).toList := fun o ho => List.mem_of_mem_drop (List.mem_of_mem_take ho)
          refine listIn_app ?_ _ _ _ (opsR_ok (rd := none) (n := 0) hb _ (fun o ho => okOps_mem _ hok.1 o (hmem o ho)) (fun o ho => noDeferL_mem hok.2 ho) m S.top.a act S.h w (Ext.refl m) hra F hops)
          rintro e act2 w2 ⟨m2, hx2, hra2, F2, hex⟩
          cases hex with | panic hv =>
          exact panicK_ok (fallM_ok hm hb.call hS _ _ _ _ h m2 acts act2 w2 _ (hst.mono hx2.le) hra2 F2 hv)
        · cases h
      · cases h
    · cases h
  · -- a return
    split at h
    · rename_i hk
      split at h
      · rename_i fn hf
        intro m acts act w hst hra F
        rw [hk]
        show Bo P S.top.f (KRs P R0 S.st acts) .normal act w
        unfold popM at h
        split at h
        · rename_i v h1 hmark
          split at h
          · rename_i d fr st hstk
            split at h
            · rename_i hd
              simp only [Option.some.injEq] at h; subst h
              rw [hstk] at hst ⊢
              cases hst with | @cons _ _ act2 _ acts2 hr2 hst2 =>
              unfold Bo
              rw [hf]
              have hd' : ∀ t, d = some t → t < fr.N := by
                intro t ht
                subst ht
                exact Nat.le_of_ble_eq_true hd
              refine LeavesX.mono ?_ _ _ _ (dsM_ok hm hb.call _ _ _ hmark m _ .returning w hra.tmps hra.defers .ret F)
              rintro e w2 ⟨m2, hx2, F2, v', rfl, hv⟩
              exact hS m2 acts2 _ w2 (hst2.mono hx2.le) ((hr2.mono hx2.le).put1 hd' hv) F2
            · cases h
          · cases h
        · cases h
      · cases h
    · cases h
  · -- behind a block, a round, a region
    split at h
    · rename_i id k hk
      simp only [Option.some.injEq] at h; subst h
      intro m acts act w hst hra F
      rw [hk]
      exact hS m acts act w hst hra F
    · rename_i p k hk
      simp only [Option.some.injEq] at h; subst h
      intro m acts act w hst hra F
      rw [hk]
      exact InLW.round (hS m acts act w hst hra F)
    · rename_i p j k hk
      split at h
      · rename_i hd
        simp only [Option.some.injEq] at h; subst h
        intro m acts act w hst hra F
        rw [hk]
        show wpListIn Fence.wide 0 P (opsIn (codeAt (bodyAt P S.top.f) p)) (QK P (bodyAt P S.top.f) k (Bo P S.top.f (KRs P R0 S.st acts))) ((opsIn (codeAt (bodyAt P S.top.f) p)).toList.drop j) act w
        rw [hd]
        exact hS m acts act w hst hra F
      · cases h
    · cases h
  · cases h
theorem roundsM_ok (hm : P.follows .mixedOrders = true) (hb : BothOK P w0 both) : ∀ (n : Nat) (S S' : MS), roundsM P both lf n S = some S' → RunsM P w0 R0 S' → RunsM P w0 R0 S := by
  intro n
  induction n with
  | zero =>
    intro S S' h hS
    have h : some S = some S' := h
    simp only [Option.some.injEq] at h; subst h
    exact hS
  | succ n ih =>
    intro S S' h hS
    have h : nextM (roundsM P both lf n) (roundM P both lf S) = some S' := h
    unfold nextM at h
    split at h
    · rename_i S1 h1
      unfold roundM nextM at h1
      split at h1
      · rename_i S2 h2
        exact stepM_ok hm hb h2 (stepM_ok hm hb h1 (ih _ _ h hS))
      · cases h1
    · cases h
theorem stepX_ok (hm : P.follows .mixedOrders = true) (hb : BothOK P w0 both) {S S' : MS} {i : MI} (h : stepX P both lf S i = some S') (hS : RunsM P w0 R0 S') : RunsM P w0 R0 S := by
  cases i with
  | rounds n => exact roundsM_ok hm hb n S S' h hS
  | atom => exact stepM_ok (lf := lf) (i := .atom) hm hb h hS
  | opn => exact stepM_ok (lf := lf) (i := .opn) hm hb h hS
  | ops n => exact stepM_ok (lf := lf) (i := .ops n) hm hb h hS
  | call => exact stepM_ok (lf := lf) (i := .call) hm hb h hS
  | dfr => exact stepM_ok (lf := lf) (i := .dfr) hm hb h hS
  | fall => exact stepM_ok (lf := lf) (i := .fall) hm hb h hS
  | pop => exact stepM_ok (lf := lf) (i := .pop) hm hb h hS
  | pass => exact stepM_ok (lf := lf) (i := .pass) hm hb h hS
theorem runM_ok (hm : P.follows .mixedOrders = true) (hb : BothOK P w0 both) : ∀ (l : List MI) (S S' : MS), runM P both lf l S = some S' → RunsM P w0 R0 S' → RunsM P w0 R0 S := by
  intro l
  induction l with
  | nil =>
    intro S S' h hS
    have h : some S = some S' := h
    simp only [Option.some.injEq] at h; subst h
    exact hS
  | cons i l ih =>
    intro S S' h hS
    have h : nextM (runM P both lf l) (stepX P both lf S i) = some S' := h
    unfold nextM at h
    split at h
    · rename_i S1 h1
      exact stepX_ok hm hb h1 (ih _ _ h hS)
    · cases h
/-! ### states as texts -/
theorem sameN_eq : ∀ {l m : List Nat}, sameN l m = true → l = m
  | [], [], _ => rfl
  | [], _ :: _, h => by cases h
  | _ :: _, [], h => by cases h
  | a :: l, b :: m, h => by
    unfold sameN at h
    rw [Bool.and_eq_true] at h
    rw [Nat.eq_of_beq_eq_true h.1, sameN_eq h.2]
theorem sameKI_eq : ∀ {x y : KI}, sameKI x y = true → x = y
  | .code p, y, h => by cases y <;> simp only [sameKI] at h <;> first | (rw [sameN_eq h]; done) | cases h
  | .inLoop p, y, h => by cases y <;> simp only [sameKI] at h <;> first | (rw [sameN_eq h]; done) | cases h
  | .inBlock i, y, h => by cases y <;> simp only [sameKI] at h <;> first | (rw [Nat.eq_of_beq_eq_true h]; done) | cases h
  | .ops p j, y, h => by
    cases y <;> simp only [sameKI] at h <;> first
      | (rw [Bool.and_eq_true] at h; rw [sameN_eq h.1, Nat.eq_of_beq_eq_true h.2]; done)
      | cases h
theorem sameK_eq : ∀ {l m : List KI}, sameK l m = true → l = m
  | [], [], _ => rfl
  | [], _ :: _, h => by cases h
  | _ :: _, [], h => by cases h
  | a :: l, b :: m, h => by
    unfold sameK at h
    rw [Bool.and_eq_true] at h
    rw [sameKI_eq h.1, sameK_eq h.2]
theorem sameD_eq : ∀ {l m : List (FuncId × List AV × List AV)}, sameD l m = true → l = m
  | [], [], _ => rfl
  | [], _ :: _, h => by cases h
  | _ :: _, [], h => by cases h
  | (f, a, b) :: l, (g, c, d) :: m, h => by
    unfold sameD at h
    simp only [Bool.and_eq_true] at h
    rw [Nat.eq_of_beq_eq_true h.1.1.1, AV.sameL_eq _ _ h.1.1.2, AV.sameL_eq _ _ h.1.2, sameD_eq h.2]
theorem sameT_eq : ∀ {a b : Option Tmp}, sameT a b = true → a = b
  | none, none, _ => rfl
  | none, some _, h => by cases h
  | some _, none, h => by cases h
  | some a, some b, h => by rw [Nat.eq_of_beq_eq_true h]
theorem sameM_eq : ∀ {l m : List (AV × AV)}, sameM l m = true → l = m
  | [], [], _ => rfl
  | [], _ :: _, h => by cases h
  | _ :: _, [], h => by cases h
  | (a, b) :: l, (c, d) :: m, h => by
    unfold sameM at h
    simp only [Bool.and_eq_true] at h
    rw [AV.same_eq _ _ h.1.1, AV.same_eq _ _ h.1.2, sameM_eq h.2]
theorem sameO_eq : ∀ {x : Option AV} {v : AV}, sameO x (some v) = true → x = some v
  | none, _, h => by cases h
  | some a, v, h => by rw [AV.same_eq _ _ h]
theorem slotsIn_ok {t : T AV} : ∀ {l : Fr}, slotsIn t l = true → ∀ i v, l.get i = some v → t.get i = some v
  | [], _, _, _, h => by cases h
  | (i, x) :: l, hk, j, v, h => by
    unfold slotsIn at hk
    rw [Bool.and_eq_true] at hk
    unfold Fr.get at h
    split at h
    · rename_i e
      have := Nat.eq_of_beq_eq_true e
      subst this
      simp only [Option.some.injEq] at h; subst h
      exact sameO_eq hk.1
    · exact slotsIn_ok hk.2 j v h
theorem coversF_ok {x : MF} {y : LF} (h : coversF x y = true) : x.f = y.f ∧ x.N = y.N ∧ x.k = y.k ∧ ∀ {m : Map} {act : Act}, RelAct m x.N x.a act → RelAct m y.N y.mf.a act := by
  unfold coversF at h
  simp only [Bool.and_eq_true] at h
  have h2 := Nat.eq_of_beq_eq_true h.1.1.1.2
  refine ⟨Nat.eq_of_beq_eq_true h.1.1.1.1, h2, sameK_eq h.1.2, fun hr => ⟨h2 ▸ hr.size, fun t v hv => hr.tmps t v ?_, ?_⟩⟩
  · have hv : y.l.tree.get t = some v := hv
    rw [Fr.get_tree] at hv
    exact slotsIn_ok h.2 t v hv
  · have hd : x.a.defers = y.mf.a.defers := sameD_eq h.1.1.2
    rw [← hd]
    exact hr.defers
theorem cellsIn_ok {t : T AV} : ∀ {l : List AV} {i : Nat}, cellsIn t i l = true → ∀ k x, l[k]? = some x → t.get (i + k) = some x
  | [], _, _, k, x, h => by simp at h
  | v :: l, i, hk, k, x, h => by
    unfold cellsIn at hk
    rw [Bool.and_eq_true] at hk
    cases k with
    | zero =>
      simp only [List.getElem?_cons_zero, Option.some.injEq] at h; subst h
      exact sameO_eq hk.1
    | succ k =>
      have := cellsIn_ok hk.2 k x (by simpa using h)
      rw [show i + (k + 1) = i + 1 + k by omega]
      exact this
/-- one object has what another one has -/
def SubO : AObj → AObj → Prop
  | .row n t2 e, o => ∃ t, o = .row n t e ∧ (∀ i, n ≤ i → t2.get i = none) ∧ ∀ i, i < n → t2.get i = t.get i
  | .map es, o => o = .map es
  | .glob t2, o => ∃ t, o = .glob t ∧ ∀ i x, t2.get i = some x → t.get i = some x
  | .obj q, o => q = .dfr ∧ o = .obj .dfr
  | _, _ => False
theorem coversO_ok {o : Option AObj} {q : LO} (h : coversO o q = true) : ∃ o', o = some o' ∧ SubO q.obj o' := by
  unfold coversO at h
  split at h
  · rename_i n t e l e'
    simp only [Bool.and_eq_true] at h
    have hn := Nat.eq_of_beq_eq_true h.1.1
    have he := Nat.eq_of_beq_eq_true h.1.2
    subst hn he
    refine ⟨_, rfl, t, rfl, fun i hi => ?_, fun i hi => ?_⟩
    · rw [rowOf_get, List.getElem?_eq_none hi]
    · rw [rowOf_get, List.getElem?_eq_getElem hi]
      have := cellsIn_ok h.2 i (l[i]) (List.getElem?_eq_getElem hi)
      rw [Nat.zero_add] at this
      exact this.symm
  · rename_i es es'
    rw [sameM_eq h]
    exact ⟨_, rfl, rfl⟩
  · rename_i t l
    refine ⟨_, rfl, t, rfl, fun i x hx => ?_⟩
    rw [rowOf_get] at hx
    have := cellsIn_ok h i x hx
    rwa [Nat.zero_add] at this
  · exact ⟨_, rfl, rfl, rfl⟩
  · cases h
theorem obTree_get {h : AHeap} : ∀ {l : List (Nat × LO)}, coversH h l = true → ∀ {b : Nat} {o : AObj}, (obTree l).get b = some o → ∃ o', h.get b = some o' ∧ SubO o o'
  | [], _, b, o, hg => by
    have hg : (T.e : T AObj).get b = some o := hg
    rw [T.get_e] at hg; cases hg
  | (c, q) :: l, hk, b, o, hg => by
    unfold coversH at hk
    rw [Bool.and_eq_true] at hk
    unfold obTree at hg
    by_cases e : c = b
    · subst e
      rw [T.get_set_same] at hg
      simp only [Option.some.injEq] at hg; subst hg
      exact coversO_ok hk.1
    · rw [T.get_set_other _ _ e] at hg
      exact obTree_get hk.2 hg
/-- what is left out is let go -/
theorem Fits.sub {m : Map} {h h2 : AHeap} (F : Fits w0 m h w) (hn : h2.next = h.next) (hx : h2.ex = h.ex) (hs : ∀ b o2, h2.get b = some o2 → ∃ o, h.get b = some o ∧ SubO o2 o) : Fits w0 m h2 w := by
  have alive : ∀ {b o2}, h2.get b = some o2 → o2.alive = true → ∃ o, h.get b = some o ∧ o.alive = true := by
    intro b o2 hb ha
    obtain ⟨o, h1, h3⟩ := hs b o2 hb
    cases o2 with
    | row n t e => obtain ⟨t', rfl, _⟩ := h3; exact ⟨_, h1, rfl⟩
    | map es => cases h3; exact ⟨_, h1, rfl⟩
    | glob t => cases ha
    | dead => exact h3.elim
    | ro t => exact h3.elim
    | obj q => obtain ⟨rfl, rfl⟩ := h3; exact ⟨_, h1, rfl⟩
  exact {
    below := F.below
    floor := F.floor
    pin := fun k o hk => ⟨(F.pin k o hk).1, fun b o2 s z hb ho => by
      obtain ⟨o', h1, h2⟩ := alive hb ho
      exact (F.pin k o hk).2 b o' s z h1 h2⟩
    len := by rw [hn]; exact F.len
    fresh := fun b hb => by
      cases e : h2.get b with
      | none => rfl
      | some o2 =>
        obtain ⟨o, h1, _⟩ := hs b o2 e
        rw [F.fresh b (by rw [← hn]; exact hb)] at h1
        cases h1
    wf := fun b n t e hb i hi => by
      obtain ⟨o, _, t', _, h3, _⟩ := hs b _ hb
      exact h3 i hi
    row := fun b n t e g s z hb hm => by
      obtain ⟨o, h1, t', rfl, h3, h4⟩ := hs b _ hb
      obtain ⟨k1, c, fz, a1, a2, a3, a4, a5, a6⟩ := F.row b n t' e g s z h1 hm
      exact ⟨k1, c, fz, a1, a2, a3, a4, h3, fun i hi => by
        obtain ⟨x, y, b1, b2⟩ := a6 i hi
        exact ⟨x, y, by rw [h4 i hi]; exact b1, b2⟩⟩
    map := fun b es g s z hb hm => by
      obtain ⟨o, h1, h3⟩ := hs b _ hb
      cases h3
      exact F.map b es g s z h1 hm
    obj := fun b q g s z hb hm => by
      obtain ⟨o, h1, h3⟩ := hs b _ hb
      obtain ⟨rfl, rfl⟩ := h3
      exact F.obj b _ g s z h1 hm
    exact := fun b n t e g s z hb hm he => by
      obtain ⟨o, h1, t', rfl, _⟩ := hs b _ hb
      exact F.exact b n t' e g s z h1 hm (by rw [← hx]; exact he)
    ro := fun b t g s z hb hm => by
      obtain ⟨o, _, h3⟩ := hs b _ hb
      exact h3.elim
    glob := fun b t hb => by
      obtain ⟨o, h1, t', rfl, h3⟩ := hs b _ hb
      obtain ⟨z, k1, k2, k3⟩ := F.glob b t' h1
      exact ⟨z, k1, k2, fun i x hx => k3 i x (h3 i x hx)⟩
    sep := fun b b' o o' g s z s' z' hne hb hb' ha ha' => by
      obtain ⟨q, h1, h3⟩ := alive hb ha
      obtain ⟨q', h1', h3'⟩ := alive hb' ha'
      exact F.sep b b' q q' g s z s' z' hne h1 h1' h3 h3' }
theorem coversS_ok : ∀ {st : List (Option Tmp × MF)} {ls : List (Option Tmp × LF)}, coversS st ls = true → ∀ {m : Map} {acts : List Act}, StRel m st acts → StRel m (ls.map fun y => (y.1, y.2.mf)) acts ∧ KRs P R0 (ls.map fun y => (y.1, y.2.mf)) acts = KRs P R0 st acts
  | [], [], _, _, _, .nil => ⟨.nil, rfl⟩
  | [], _ :: _, h, _, _, _ => by cases h
  | _ :: _, [], h, _, _, _ => by cases h
  | (d, x) :: st, (e, y) :: ls, h, m, _, .cons (acts := acts) (act := act) hr k => by
    unfold coversS at h
    simp only [Bool.and_eq_true] at h
    have hd := sameT_eq h.1.1
    subst hd
    obtain ⟨h1, h2, h3, h4⟩ := coversF_ok h.1.2
    obtain ⟨k1, k2⟩ := coversS_ok h.2 k
    refine ⟨.cons (h4 hr) k1, ?_⟩
    funext en w2
    have e1 : y.mf.f = x.f := h1.symm
    have e2 : y.mf.k = x.k := h3.symm
    cases en <;> simp only [List.map_cons, KRs, k2, e1, e2]
theorem covers_ok {S : MS} {L : LS} (h : covers S L = true) (hL : RunsM P w0 R0 L.ms) : RunsM P w0 R0 S := by
  unfold covers at h
  simp only [Bool.and_eq_true] at h
  obtain ⟨h1, h2, h3, h4⟩ := coversF_ok h.1.1.1.1
  intro m acts act w hst hra F
  obtain ⟨k1, k2⟩ := coversS_ok (P := P) (R0 := R0) h.1.1.1.2 hst
  have := hL m acts act w k1 (h4 hra) (F.sub (Nat.eq_of_beq_eq_true h.1.1.2).symm (sameN_eq h.1.2).symm (fun b o2 hb => obTree_get h.2 hb))
  have e1 : L.ms.top.f = S.top.f := h1.symm
  have e2 : L.ms.top.k = S.top.k := h3.symm
  have e3 : KRs P R0 L.ms.st acts = KRs P R0 S.st acts := k2
  rw [e1, e2, e3] at this
  exact this
theorem pieceM_ok (hm : P.follows .mixedOrders = true) (hb : BothOK P w0 both) {A B : LS} {l : List MI} (h : pieceM P both lf A l B = true) (hB : RunsM P w0 R0 B.ms) : RunsM P w0 R0 A.ms := by
  unfold pieceM at h
  split at h
  · rename_i S hS
    exact runM_ok hm hb l _ _ hS (covers_ok h hB)
  · cases h
/-- it returned true, and left what was there -/
abbrev R1 (w0 : Base) : Ending → World → Prop := fun e w => e = .returned (.bool true) ∧ Below w0.heap.size w0.w w
theorem lastM_ok (hm : P.follows .mixedOrders = true) {S : MS} (h : lastM P S = true) : RunsM P w0 (R1 w0) S := by
  unfold lastM at h
  split at h
  · rename_i fn hk hst hf
    unfold saysTrue at h
    split at h
    · rename_i b h1 hmark
      subst h
      intro m acts act w hs hra F
      rw [hk, hst] at *
      cases hs
      show Bo P S.top.f (R1 w0) .normal act w
      unfold Bo
      rw [hf]
      refine LeavesX.mono ?_ _ _ _ (dsM_ok hm (fun _ _ _ _ _ h => by cases h) _ _ _ hmark m _ .returning w hra.tmps hra.defers .ret F)
      rintro e w2 ⟨m2, hx2, F2, v', rfl, hv⟩
      cases hv
      exact ⟨rfl, F2.below⟩
    · cases h
  · cases h
theorem endM_ok (hm : P.follows .mixedOrders = true) (hb : BothOK P w0 both) {A : LS} {l : List MI} (h : endM P both lf A l = true) : RunsM P w0 (R1 w0) A.ms := by
  unfold endM at h
  split at h
  · rename_i S hS
    exact runM_ok hm hb l _ _ hS (lastM_ok hm h)
  · cases h
end

/-! ### from the beginning -/
def globsL (GL : Tabs) : List (Nat × LO) := GL.map fun x => (x.1, .glob x.2)
def startL (P : Program) (GL : Tabs) (X : List Nat) (G : Nat) (f : FuncId) : LS := ⟨⟨f, match P.funcs[f]? with
  | some fn => fn.ntmps
  | none => 0, [], [], [.code []]⟩, [], G, X, globsL GL⟩
theorem globsL_tree : ∀ (GL : Tabs), obTree (globsL GL) = tabTree GL
  | [] => rfl
  | (g, l) :: r => by
    show (obTree (globsL r)).set g _ = _
    rw [globsL_tree r]
    rfl
theorem runsM_calls {P : Program} {GL : Tabs} {X : List Nat} {G : Nat} (hG : tabsOk G GL = true) {f : FuncId} {W : World} (hL : Laid GL W) {fn : Func} (hf : P.funcs[f]? = some fn) (hs : fn.body.isSome = true) (h : RunsM P W (R1 W) (startL P GL X G f).ms) :
    Calls P f #[] W (R1 W) := by
  obtain ⟨c, hc⟩ := Option.isSome_iff_exists.1 hs
  have F := fits_startG (X := X) hL hG
  have hN : (startL P GL X G f).ms.top.N = fn.ntmps := by simp only [startL, LS.ms, LF.mf, hf]
  have hra : RelAct (mapG G) (startL P GL X G f).ms.top.N ⟨T.e, []⟩ { tmps := (#[] : Array Value) ++ Array.replicate (fn.ntmps - (#[] : Array Value).size) undef, defers := [] } := {
    size := by rw [hN]; simp
    tmps := fun t v hv => by
      have hv : (T.e : T AV).get t = some v := hv
      rw [T.get_e] at hv; cases hv
    defers := .nil }
  have F2 : Fits W (mapG G) (startL P GL X G f).ms.h W := by
    show Fits W (mapG G) ⟨G, X, obTree (globsL GL)⟩ W
    rw [globsL_tree]
    exact F
  have := h (mapG G) [] _ W .nil hra F2
  have this : (bodyAt P f).wpIn Fence.wide 0 P (Bo P f (R1 W)) _ W := this
  have hb : bodyAt P f = c := by simp only [bodyAt, hf, hc, Option.getD_some]
  have hB : Bo P f (R1 W) = bodyPostX P fn (R1 W) := by
    unfold Bo
    rw [hf]
  rw [hb, hB] at this
  exact calls_of_wp_X hf hc (wpIn_wide.1 this)
end
end Go.Proofs.Ytikaeeaepnflnaa.Abs
/- Tables at package level, out of a card's words. -/
namespace Go.Proofs.Ytikaeeaepnflnaa.Abs
noncomputable section
open Go.RowKit

theorem laidVars_at {P : Program} {W : World} : ∀ {L : List (String × DataW Unit)} {ps : List MemPlace}, DataW.LaidVars P W L ps → ∀ {i : Nat} {n : String} {d : DataW Unit}, L[i]? = some (n, d) →
    ∃ g t cs fuel p, P.globalNamed n = some g ∧ (P.globals[g]?).map (·.type) = some t ∧ W.var? P n = some cs ∧ DataW.trod (fun _ => ()) P W 0 (fun _ => true) false fuel t cs.toList = some (d, p)
  | [], _, _, i, n, d, hi => by simp at hi
  | (n', d') :: L, ps, h, i, n, d, hi => by
    obtain ⟨g, t, cs, fuel, p, q, h1, h2, h3, h4, h5, _⟩ := h
    cases i with
    | zero =>
      simp only [List.getElem?_cons_zero, Option.some.injEq, Prod.mk.injEq] at hi
      obtain ⟨rfl, rfl⟩ := hi
      exact ⟨g, t, cs, fuel, p, h1, h2, h3, h4⟩
    | succ i => exact laidVars_at h5 (by simpa using hi)
/-- a table of whole numbers -/
theorem laid_ints {P : Program} {W : World} {L : List (String × DataW Unit)} (h : laidMet P L W) {i : Nat} {n : String} {g t e len : Nat} {k : IntKind} {zs : List Int} (hm : L[i]? = some (n, DataW.agg (zs.map fun z => .lit (.int k z))))
    (hg : P.globalNamed n = some g) (ht : (P.globals[g]?).map (·.type) = some t) (hu : P.underlying t = some (.array len e)) (hue : P.underlying e = some (.int k)) (hce : P.cellsOf e = 1) (h0 : 0 < zs.length) :
    g < W.heap.size ∧ ∀ j x, (zs.map fun z => AV.int k z)[j]? = some x → ∃ y, W.cell? ⟨g, j, none⟩ = some y ∧ Rel [] x y ∧ y.oneCell' = true := by
  obtain ⟨ps, hv, _⟩ := h
  obtain ⟨g', t', cs, fuel, p, k1, k2, k3, k4⟩ := laidVars_at hv hm
  rw [hg] at k1
  cases k1
  rw [ht] at k2
  cases k2
  obtain ⟨xs, m, _, ex, _, hl, hel⟩ := DataW.trod_array hu k4
  have e3 : (xs.map (·.1)) = zs.map fun z => (DataW.lit (.int k z) : DataW Unit) := (DataW.agg.inj (Prod.mk.inj ex).1).symm
  have hlen : xs.length = zs.length := by
    have := congrArg List.length e3
    simpa using this
  have cell : ∀ j (hj : j < zs.length), W.cell? ⟨g, j, none⟩ = some (.int k zs[j]) := by
    intro j hj
    have hE := hel j (by omega)
    rw [hce, Nat.mul_one, List.getElem?_eq_getElem (by omega)] at hE
    obtain ⟨z, e1, e2, _⟩ := DataW.trod_int hue hE
    have e4 : (xs.map (·.1))[j]? = (zs.map fun z => (DataW.lit (.int k z) : DataW Unit))[j]? := by rw [e3]
    rw [List.getElem?_map, List.getElem?_map, List.getElem?_eq_getElem (by omega : j < xs.length), List.getElem?_eq_getElem hj, e2] at e4
    simp only [Option.map_some, Option.some.injEq, DataW.lit.injEq, Lit.int.injEq, true_and] at e4
    subst e4
    rw [World.var?_cell hg k3 j]
    have : cs.toList[j]? = some (.int k zs[j]) := by
      have h0 : ((cs.toList.drop j).take 1)[0]? = some (.int k zs[j]) := by rw [e1]; rfl
      simpa using h0
    simpa using this
  refine ⟨?_, fun j x hx => ?_⟩
  · have := cell 0 h0
    unfold World.cell? at this
    cases hb : W.heap[g]? with
    | none => simp [hb] at this
    | some o => exact heap_lt hb
  · rw [List.getElem?_map] at hx
    cases hz : zs[j]? with
    | none => rw [hz] at hx; cases hx
    | some z =>
      rw [hz] at hx
      simp only [Option.map_some, Option.some.injEq] at hx
      subst hx
      obtain ⟨hj, rfl⟩ := List.getElem?_eq_some_iff.1 hz
      exact ⟨_, cell j hj, .int k _, rfl⟩
theorem laid_put {GL : Tabs} {W : World} {g : Nat} {l : List AV} (h : g < W.heap.size ∧ ∀ i x, l[i]? = some x → ∃ y, W.cell? ⟨g, i, none⟩ = some y ∧ Rel [] x y ∧ y.oneCell' = true) (hL : Laid GL W) : Laid ((g, l) :: GL) W := fun g' l' hm => by
  rcases List.mem_cons.1 hm with e | hm
  · cases e; exact h
  · exact hL g' l' hm
end
end Go.Proofs.Ytikaeeaepnflnaa.Abs
/- A long text of zeros in one step: a row of zero bytes is made and turned into a text; nobody looks at the row again. -/
namespace Go.Proofs.Ytikaeeaepnflnaa.Abs
noncomputable section
open Go.RowKit

def zConv (P : Program) (ops : Array Oper) (a : AAct) (nx n : Nat) (o : Oper) : Option AAct :=
  match wantedT ops a.tmps.get o.guard, o.op with
  | some true, .convert s d x => match a.eval x with
    | some (.sl b 0 k 1) => match Nat.beq b nx && Nat.beq k n with
      | true => match P.underlying d, P.underlying s with
        | some .string, some (.slice e) => match P.underlying e with
          | some (.int .u8) => some (a.put o.dst (.str n 0))
          | _ => none
        | _, _ => none
      | false => none
    | _ => none
  | _, _ => none
def zTwo (P : Program) (ops : Array Oper) (a : AAct) (h : AHeap) (o o2 : Oper) : Option AAct :=
  match wantedT ops a.tmps.get o.guard, o.op with
  | some true, .makeSlice t l c => match a.eval l, a.eval c with
    | some (.int _ (.ofNat n)), some (.int _ (.ofNat m)) => match elemOf P t with
      | some e => match zeroA P e with
        | some (.int .u8 (.ofNat 0)) => match Nat.ble n m && bytesFit P e m && (memB e h.ex == false) && Nat.beq (P.cellsOf e) 1 with
          | true => zConv P ops (a.put o.dst (.sl h.next 0 n 1)) h.next n o2
          | false => none
        | _ => none
      | none => none
    | _, _ => none
  | _, _ => none
def zStep (P : Program) (S : MS) : Option MS := match S.top.k with
  | .ops p j :: k => match okOps S.top.N (opsIn (codeAt (bodyAt P S.top.f) p)).toList && noDeferL (((opsIn (codeAt (bodyAt P S.top.f) p)).toList.drop j).take 2) with
    | true => match (opsIn (codeAt (bodyAt P S.top.f) p)).toList.drop j with
      | o :: o2 :: _ => match zTwo P (opsIn (codeAt (bodyAt P S.top.f) p)) S.top.a S.h o o2 with
        | some a => some ⟨{ S.top with a := a, k := .ops p (j + 2) :: k }, S.st, ⟨S.h.next + 1, S.h.ex, S.h.tree⟩⟩
        | none => none
      | _ => none
    | false => none
  | _ => none
/-- a piece that is this step alone -/
def zPiece (P : Program) (A B : LS) : Bool := match zStep P A.ms with
  | some S => (A.ms.h.get A.ms.h.next).isNone && covers S B
  | none => false

theorem take_rep {α : Type} {t : T α} {x : α} : ∀ (n i : Nat), (∀ k, k < n → t.get (i + k) = some x) → t.take i n = some (List.replicate n x)
  | 0, _, _ => rfl
  | n + 1, i, h => by
    have h0 := h 0 (by omega)
    rw [Nat.add_zero] at h0
    have h1 := take_rep n (i + 1) (fun k hk => by rw [show i + 1 + k = i + (k + 1) by omega]; exact h (k + 1) (by omega))
    simp only [T.take, h0, h1, List.replicate_succ]
theorem bytesA_rep : ∀ n : Nat, bytesA (List.replicate n (.int .u8 (.ofNat 0))) = some (n, 0)
  | 0 => rfl
  | n + 1 => by
    have h := bytesA_rep n
    simp only [List.replicate_succ, bytesA, h]
    rfl
theorem zConv_eq {P : Program} {ops : Array Oper} {a a' : AAct} {h : AHeap} {e0 : TypeId} {m n : Nat} {o : Oper} (hnm : n ≤ m) (hz : zConv P ops a h.next n o = some a') :
    ∀ both, stepR P both ops o a (h.new (rowOf (List.replicate m (.int .u8 (.ofNat 0))) e0)) = some (.go a' (h.new (rowOf (List.replicate m (.int .u8 (.ofNat 0))) e0))) := by
  intro both
  unfold zConv at hz
  split at hz
  · rename_i s d x hw ho
    split at hz
    · rename_i b k hx
      split at hz
      · rename_i hbk
        rw [Bool.and_eq_true] at hbk
        have hb := Nat.eq_of_beq_eq_true hbk.1
        have hk := Nat.eq_of_beq_eq_true hbk.2
        subst hb hk
        split at hz
        · rename_i e hd hs
          split at hz
          · rename_i he
            simp only [Option.some.injEq] at hz
            subst hz
            have hg : rowGet (h.new (rowOf (List.replicate m (.int .u8 (.ofNat 0))) e0)) h.next 0 k = some (List.replicate k (.int .u8 (.ofNat 0))) := by
              have h1 : (h.new (rowOf (List.replicate m (AV.int .u8 (.ofNat 0))) e0)).get h.next = some (rowOf (List.replicate m (.int .u8 (.ofNat 0))) e0) := T.get_set_same _ _ _
              unfold rowGet
              rw [h1]
              show (T.put .e 0 _).take 0 k = _
              refine take_rep k 0 fun i hi => ?_
              rw [rowOf_get, Nat.zero_add, List.getElem?_replicate, if_pos (by omega)]
            unfold stepR
            rw [hw]
            unfold opA
            rw [ho]
            show stepOutR both a o.dst (opConv P _ s d (a.eval x)) = _
            rw [hx]
            show stepOutR both a o.dst (if (1 : Nat) = 1 then convBytes P _ s d (rowGet _ h.next 0 k) else none) = _
            rw [if_pos rfl, hg]
            unfold convBytes
            simp only [hd, hs, he, bytesA_rep]
            rfl
          · cases hz
        · cases hz
      · cases hz
    · cases hz
  · cases hz
theorem zTwo_eq {P : Program} {ops : Array Oper} {a a' : AAct} {h : AHeap} {o o2 : Oper} (hz : zTwo P ops a h o o2 = some a') :
    ∃ l e, ∀ both, opsR P both ops [o, o2] a h = some (.normal, a', h.new (rowOf l e)) := by
  unfold zTwo at hz
  split at hz
  · rename_i t l c hw ho
    split at hz
    · rename_i k1 n k2 m hl hc
      split at hz
      · rename_i e he
        split at hz
        · rename_i hze
          split at hz
          · rename_i hk
            simp only [Bool.and_eq_true, beq_iff_eq] at hk
            have hnm := Nat.le_of_ble_eq_true hk.1.1.1
            have hce := Nat.eq_of_beq_eq_true hk.2
            refine ⟨List.replicate m (.int .u8 (.ofNat 0)), e, fun both => ?_⟩
            have h1 : stepR P both ops o a h = some (.go (a.put o.dst (.sl h.next 0 n 1)) (h.new (rowOf (List.replicate m (.int .u8 (.ofNat 0))) e))) := by
              unfold stepR
              rw [hw]
              unfold opA
              rw [ho]
              show stepOutR both a o.dst (opMakeSlice P h t (a.eval l) (a.eval c)) = _
              rw [hl, hc]
              unfold opMakeSlice
              simp only [he, hze]
              rw [if_pos ⟨hk.1.1.1, hk.1.1.2⟩]
              have hf : (List.replicate m (AV.int .u8 (.ofNat 0)).cells).flatten = List.replicate m (.int .u8 (.ofNat 0)) := by
                show (List.replicate m [AV.int .u8 (.ofNat 0)]).flatten = _
                induction m with
                | zero => rfl
                | succ m ih => simp [List.replicate_succ]
              rw [hf]
              unfold outNewS
              rw [if_pos ⟨by rw [List.all_eq_true]; intro x hx; rw [List.eq_of_mem_replicate hx]; rfl, hk.1.2⟩, hce]
              rfl
            have h2 := zConv_eq (e0 := e) hnm hz both
            show aNext (fun a h => aNext (fun a h => some (.normal, a, h)) a (stepR P both ops o2 a h)) a (stepR P both ops o a h) = _
            rw [h1]
            show aNext (fun a h => some (.normal, a, h)) _ (stepR P both ops o2 _ _) = _
            rw [h2]
            rfl
          · cases hz
        · cases hz
      · cases hz
    · cases hz
  · cases hz
theorem subO_refl : ∀ {l : List (Nat × LO)} {b : Nat} {o : AObj}, (obTree l).get b = some o → SubO o o
  | [], b, o, h => by
    have h : (T.e : T AObj).get b = some o := h
    rw [T.get_e] at h; cases h
  | (c, q) :: l, b, o, h => by
    unfold obTree at h
    by_cases e : c = b
    · subst e
      rw [T.get_set_same] at h
      simp only [Option.some.injEq] at h; subst h
      cases q with
      | row l e => exact ⟨_, rfl, fun i hi => by rw [rowOf_get, List.getElem?_eq_none hi], fun _ _ => rfl⟩
      | map es => exact rfl
      | glob l => exact ⟨_, rfl, fun _ _ h => h⟩
      | dfr => exact ⟨rfl, rfl⟩
    · rw [T.get_set_other _ _ e] at h
      exact subO_refl h
section
variable {P : Program} {w0 : Base} {R0 : Ending → World → Prop} {both : BothF}
theorem zPiece_ok (hm : P.follows .mixedOrders = true) (hb : BothOK P w0 both) {A B : LS} (h : zPiece P A B = true) (hB : RunsM P w0 R0 B.ms) : RunsM P w0 R0 A.ms := by
  unfold zPiece at h
  split at h
  · rename_i S hS
    rw [Bool.and_eq_true] at h
    have hR := covers_ok h.2 hB
    unfold zStep at hS
    split at hS
    · rename_i p j k hk
      split at hS
      · rename_i hok
        split at hS
        · rename_i o o2 rest hd
          split at hS
          · rename_i a ha
            simp only [Option.some.injEq] at hS
            obtain ⟨l, e, he⟩ := zTwo_eq ha
            have h2 : stepM P both 0 A.ms (.ops 2) = some ⟨{ A.ms.top with a := a, k := .ops p (j + 2) :: k }, A.ms.st, A.ms.h.new (rowOf l e)⟩ := by
              rw [hd, List.take_succ_cons, List.take_succ_cons, List.take_zero] at hok
              unfold stepM
              simp only [hk, hd, List.take_succ_cons, List.take_zero, hok, he both]
            refine stepM_ok hm hb h2 ?_
            subst hS
            intro m acts act w hst hra F
            refine hR m acts act w hst hra (F.sub rfl rfl fun b q hq => ?_)
            have hq : A.ms.h.get b = some q := hq
            have hne : A.ms.h.next ≠ b := fun e => by
              rw [e, hq] at h
              exact absurd h.1 (by simp)
            refine ⟨q, ?_, subO_refl hq⟩
            show (A.ms.h.tree.set A.ms.h.next _).get b = _
            rw [T.get_set_other _ _ hne]
            exact hq
          · cases hS
        · cases hS
      · cases hS
    · cases hS
  · cases h
end
end
end Go.Proofs.Ytikaeeaepnflnaa.Abs
/- slices.Delete as a step of its own: the row is written in its place. -/
namespace Go.Proofs.Ytikaeeaepnflnaa.Abs
noncomputable section
open Go.RowKit

def delCells {α : Type} (sz i j : Nat) (cs z : List α) : List α := cs.drop (j * sz) ++ (List.replicate (j - i) z).flatten
/-- what slices.Delete comes to, where it takes something away -/
def delS (P : Program) (e : TypeId) : List AV → AHeap → Option (ARes × AHeap)
  | [.sl b o n sz, .int .i64 (.ofNat i), .int .i64 (.ofNat j)], h => match Nat.blt i j && Nat.ble j n && Nat.beq sz (P.cellsOf e) with
    | true => match rowGet h b o (n * sz), zeroA P e with
      | some cs, some z => match rowPut h b (o + i * sz) (delCells sz i j cs z.cells) with
        | some h' => some (.ret (.sl b o (n - (j - i)) sz), h')
        | none => none
      | _, _ => none
    | false => none
  | _, _ => none
def delSpec (P : Program) (F : FuncId) (e : TypeId) : SpecT := fun f => match Nat.beq f F with
  | true => some fun _ args h => delS P e args h
  | false => none
/-- what is asked of the function -/
def DelOK (P : Program) (F : FuncId) (e : TypeId) : Prop := ∀ (w : World) (g off n cap i j : Nat) (cs : List Value) (zv : Value) (info : TypeInfo), P.info? e = some info → info.zero = some zv → zv.cells.size = info.size → i < j → j ≤ n → n ≤ cap → cs.length = n * info.size → w.rangeAt g off cs → w.there g (off + i * info.size) ((n - i) * info.size) →
  (∀ v ∈ cs, v.oneCell' = true) → (∀ v ∈ zv.cells.toList, v.oneCell' = true) →
  Calls P F #[.slice (some ⟨g, off, none⟩) n cap, .int .i64 i, .int .i64 j] w fun e' w' => e' = .returned (.slice (some ⟨g, off, none⟩) (n - (j - i)) cap) ∧ ∃ k, w' = ({ w with drawn := w.drawn + k } : World).setCells g (off + i * info.size) (delCells info.size i j cs zv.cells.toList)
theorem Fits.ahead {w0 : Base} {m : Map} {H : AHeap} {w : World} (F : Fits w0 m H w) : ∀ k, Fits w0 m H { w with drawn := w.drawn + k }
  | 0 => F
  | k + 1 => (F.ahead k).drew
theorem delSpec_ok {P : Program} {F : FuncId} {e : TypeId} (hD : DelOK P F e) (w0 : Base) : SpecOK P w0 (delSpec P F e) := by
  intro f s hs call _ g args h r h' hcall m w args' ha Fw
  unfold delSpec at hs
  split at hs
  · rename_i hf
    have hf := Nat.eq_of_beq_eq_true hf
    simp only [Option.some.injEq] at hs
    subst hs
    simp only at hcall
    split at hcall
    · rename_i hg
      subst hg
      subst hf
      unfold delS at hcall
      split at hcall
      · rename_i b o n sz i j
        split at hcall
        · rename_i hc
          simp only [Bool.and_eq_true] at hc
          obtain ⟨⟨hij, hjn⟩, hsz⟩ := hc
          have hij : i < j := Nat.le_of_ble_eq_true hij
          have hjn := Nat.le_of_ble_eq_true hjn
          have hsz := Nat.eq_of_beq_eq_true hsz
          split at hcall
          · rename_i cs z hcs hz
            split at hcall
            · rename_i h1 hput
              simp only [Option.some.injEq, Prod.mk.injEq] at hcall
              obtain ⟨rfl, rfl⟩ := hcall
              obtain ⟨info, zv, hi, hzv, hrz, hlz, hlz'⟩ := zero_ok m hz
              have hci := cells_info hi
              rw [hci] at hsz
              subst hsz
              cases ha with | cons ha1 ha => cases ha with | cons ha2 ha => cases ha with | cons ha3 ha =>
              cases ha
              have e2 := rel_int ha2
              have e3 := rel_int ha3
              subst e2 e3
              cases ha1 with | @sl _ _ _ _ cap g0 s0 z0 hm hcap hzz =>
              obtain ⟨cs', r1, r2, r3, r4⟩ := rowGet_ok Fw hm hcs
              have hrel : RelL m (delCells info.size i j cs z.cells) (delCells info.size i j cs' zv.cells.toList) := (r1.drop _).append (hrz.cells.reps _)
              have hlen : (delCells info.size i j cs' zv.cells.toList).length = (n - i) * info.size := by
                have h2 : j * info.size ≤ n * info.size := Nat.mul_le_mul_right _ hjn
                have h3 : i * info.size ≤ j * info.size := Nat.mul_le_mul_right _ (by omega)
                simp [delCells, r2, hlz', Nat.sub_mul]
                omega
              obtain ⟨_, hth, hone⟩ := rowPut_ok Fw hm hrel hput
              rw [hlen, ← Nat.add_assoc] at hth
              have hzo : ∀ v ∈ zv.cells.toList, v.oneCell' = true := fun v hv => hone v (by
                simp only [delCells, List.mem_append]
                refine .inr ?_
                rw [List.mem_flatten]
                exact ⟨_, List.mem_replicate.2 ⟨by omega, rfl⟩, hv⟩)
              refine (hD w g0 (s0 + o) n cap i j cs' zv info hi hzv hlz' hij hjn hcap r2 r3 hth r4 hzo).mono ?_
              rintro e' w' ⟨rfl, k, rfl⟩
              obtain ⟨F2, _, _⟩ := rowPut_ok (Fw.ahead k) hm hrel hput
              rw [← Nat.add_assoc] at F2
              refine ⟨m, Ext.refl m, F2, _, rfl, .sl hm (by omega) hzz⟩
            · cases hcall
          · cases hcall
        · cases hcall
      · cases hcall
    · cases hcall
  · cases hs
theorem run_clear_cells {P : Program} {t e : TypeId} {info : TypeInfo} {zv : Value} (w : World) (ts : Array TypeId) (ty : TypeId) (h0 : ts[0]? = some t) (hu : P.underlying t = some (.slice e)) (hi : P.info? e = some info) (hz : info.zero = some zv) (hzs : zv.cells.size = info.size) (g o n cap : Nat)
    (hth : w.there g o (n * info.size)) (hone : ∀ v ∈ zv.cells.toList, v.oneCell' = true) :
    (Builtin.clear_ ts ty #[.slice (some ⟨g, o, none⟩) n cap]).run P w = .ok (.tuple #[]) (w.setCells g o (List.replicate n zv.cells.toList).flatten) := by
  have hlen : (List.replicate n zv.cells.toList).flatten.length = n * info.size := by simp [hzs]
  have hst := run_storeCells_cells (P := P) g o (List.replicate n zv.cells.toList).flatten 0 w (fun j hj => by simpa using (hth j (by rw [← hlen]; exact hj)).1) (fun j hj => by simpa using (hth j (by rw [← hlen]; exact hj)).2) (fun v hv => by
    obtain ⟨l, hl, hv⟩ := List.mem_flatten.1 hv
    rw [(List.mem_replicate.1 hl).2] at hv
    exact hone v hv)
  simp only [Nat.add_zero] at hst
  have hzc : (zeroValue e).run P w = .ok zv w := by simp [zeroValue, typeInfo, hi, hz]
  cases n with
  | zero => simp [Builtin.clear_, h0, run_underlying hu, World.setCells]
  | succ n =>
    have hcells : (Builtin.zeroCells zv.cells (n + 1)).toList = (List.replicate (n + 1) zv.cells.toList).flatten := by
      by_cases hz0 : zv.cells.size = 0
      · have e0 : zv.cells.toList = [] := List.eq_nil_of_length_eq_zero (by simpa using hz0)
        rw [e0]
        have : (Builtin.zeroCells zv.cells (n + 1)).size = 0 := by rw [size_zeroCells, hz0]; simp
        have e1 : (Builtin.zeroCells zv.cells (n + 1)).toList = [] := List.eq_nil_of_length_eq_zero (by simpa using this)
        rw [e1]
        simp
      · have e1 := range_zero zv.cells.toList (n + 1) (by simp; omega)
        have e2 : zv.cells.toList.toArray = zv.cells := by simp
        rw [e2] at e1
        rw [← e1]
        simp [Builtin.zeroCells]
    simp [Builtin.clear_, h0, run_underlying hu, hzc, hcells, hst]
/-- cells written one row behind the other -/
theorem setCells_two (w : World) (g o : Nat) (l l2 : List Value) : (w.setCells g o l).setCells g (o + l.length) l2 = w.setCells g o (l ++ l2) := by
  induction l generalizing w o with
  | nil => simp [World.setCells]
  | cons v l ih =>
    simp only [World.setCells, List.cons_append, List.length_cons]
    rw [← ih, show o + 1 + l.length = o + (l.length + 1) by omega]
end
end Go.Proofs.Ytikaeeaepnflnaa.Abs
/- A run from given plain inputs, cut where one operation is done by hand. -/
namespace Go.Proofs.Ytikaeeaepnflnaa.Abs
noncomputable section
open Go.RowKit

/-- the beginning of a call -/
def startMS (P : Program) (X : List Nat) (f : FuncId) (args : List AV) : MS := ⟨⟨f, match P.funcs[f]? with
  | some fn => fn.ntmps
  | none => 0, ⟨T.put .e 0 args, []⟩, [.code []]⟩, [], ⟨0, X, .e⟩⟩
theorem runsM_args {P : Program} {X : List Nat} {f : FuncId} {W : World} {fn : Func} (hf : P.funcs[f]? = some fn) (hs : fn.body.isSome = true) {args : List AV} {args' : List Value} (hlen : args.length ≤ fn.ntmps) (ha : RelL [] args args') (h : RunsM P W (R1 W) (startMS P X f args)) :
    Calls P f ⟨args'⟩ W (R1 W) := by
  obtain ⟨c, hc⟩ := Option.isSome_iff_exists.1 hs
  have F := fits_start W X
  have hl := ha.length
  have hN : (startMS P X f args).top.N = fn.ntmps := by simp only [startMS, hf]
  have hra : RelAct [] (startMS P X f args).top.N ⟨T.put .e 0 args, []⟩ { tmps := (⟨args'⟩ : Array Value) ++ Array.replicate (fn.ntmps - (⟨args'⟩ : Array Value).size) undef, defers := [] } := {
    size := by rw [hN]; simp; omega
    tmps := fun t v hv => by
      simp only [T.get_put] at hv
      split at hv
      · rename_i hin
        simp only [Nat.sub_zero] at hv
        obtain ⟨y, hy, hr⟩ := ha.get t v hv
        have ht : t < args'.length := by omega
        refine ⟨y, ?_, hr⟩
        simp only
        rw [Array.getElem?_append_left (by simpa using ht)]
        simpa using hy
      · rw [T.get_e] at hv; cases hv
    defers := .nil }
  have := h [] [] _ W .nil hra F
  have this : (bodyAt P f).wpIn Fence.wide 0 P (Bo P f (R1 W)) _ W := this
  have hb : bodyAt P f = c := by simp only [bodyAt, hf, hc, Option.getD_some]
  have hB : Bo P f (R1 W) = bodyPostX P fn (R1 W) := by
    unfold Bo
    rw [hf]
  rw [hb, hB] at this
  exact calls_of_wp_X hf hc (wpIn_wide.1 this)
theorem says_of_R1 {P : Program} {f : FuncId} {args : List AV} (hs : ∀ (W : World) (args' : List Value), RelL [] args args' → Calls P f ⟨args'⟩ W (R1 W)) (ha : AV.scalL args = true) (h : AHeap) : Says P f args h (.ret (.bool true)) h := by
  intro w0 m w args' hra F
  refine Calls.keep (hs w args' (RelL.scal hra ha)) ?_
  rintro e w' ⟨rfl, hb⟩
  refine ⟨m, Ext.refl m, ?_, .bool true, rfl, .bool true⟩
  refine F.world (F.below.trans (hb.mono F.size)) (fun b o g s z hb' ho hm => hb.block g (F.mapped_lt hb' ho hm)) (fun k o hk => hb.block k (heap_lt (F.pin k o hk).1)) hb.size
/-- a call of plain inputs that returns true -/
theorem says_both {P : Program} (hm : P.follows .mixedOrders = true) {spec : SpecT} (hs : ∀ w0, SpecOK P w0 spec) {L X : List Nat} {lf d : Nat} {f : FuncId} {args : List AV} (hr : saysTrue (bothA P spec (fun _ _ => none) L lf d false f args ⟨0, X, .e⟩) = true) (ha : AV.scalL args = true) (h : AHeap) : Says P f args h (.ret (.bool true)) h := by
  refine says_of_R1 (fun W args' hra => ?_) ha h
  unfold saysTrue at hr
  split at hr
  · rename_i b h' he
    subst hr
    refine Calls.mono ((bothA_ok hm (hs W) (fun _ _ _ hk => by cases hk) d).call f args _ _ h' he [] W args' hra (fits_start W X)) ?_
    rintro e w' ⟨m', _, F, v', rfl, hv⟩
    cases hv
    exact ⟨rfl, F.below⟩
  · cases hr
/-- a piece whose end is what it comes to -/
theorem runM_self {P : Program} {both : BothF} {lf : Nat} {l : List MI} {S : MS} (h : (runM P both lf l S).isSome = true) : runM P both lf l S = some ((runM P both lf l S).getD S) := by
  cases hr : runM P both lf l S with
  | none => rw [hr] at h; cases h
  | some S' => rfl
end
end Go.Proofs.Ytikaeeaepnflnaa.Abs
