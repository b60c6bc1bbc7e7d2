/- Runs cut into pieces: a machine that goes step by step through the functions that are opened, and in one step through all else. -/
import Derived.Test.YtpnccmlajhhpdaaAbs40
namespace Go.Proofs.Ytpnccmlajhhpdaa.Abs
noncomputable section
open Go.RowKit

/-- what a frame has yet to do: places in its function's code (the last turn first) -/
inductive KI where
  | code (p : List Nat)
  | inLoop (p : List Nat)
  | inBlock (id : Nat)
  | ops (p : List Nat) (j : Nat)
def childAt (i : Nat) : Code → Code
  | .seq x y => match i with
    | 0 => x
    | _ => y
  | .cond _ x y => match i with
    | 0 => x
    | _ => y
  | .block _ x => x
  | .loop x => x
  | _ => .skip
def codeAt (c : Code) : List Nat → Code
  | [] => c
  | i :: p => childAt i (codeAt c p)
def opsIn : Code → Array Oper
  | .region _ ops false => ops
  | _ => #[]
def bodyAt (P : Program) (f : FuncId) : Code := match P.funcs[f]? with
  | some fn => fn.body.getD .skip
  | none => .skip
structure MF where
  f : FuncId
  N : Nat
  a : AAct
  k : List KI
structure MS where
  top : MF
  st : List (Option Tmp × MF)
  h : AHeap
/-- a step: one piece of code at once; a piece of code opened; n operations at once; a call that is opened; a call put off; a return; behind a block, a loop's round, a region -/
inductive MI where
  | atom
  | opn
  | ops (n : Nat)
  | call
  | dfr
  | fall
  | pop
  | pass
  | rounds (n : Nat)
def exitK (id : Nat) : List KI → Option (List KI)
  | [] => none
  | .inBlock i :: k => match Nat.beq i id with
    | true => some k
    | false => exitK id k
  | _ :: k => exitK id k
def contE (k : List KI) : AExit → Option (List KI)
  | .normal => some k
  | .exit id => exitK id k
  | .ret => some []
  | _ => none
def goE (S : MS) (k : List KI) : CodeT → Option MS
  | some (e, a, h) => match contE k e with
    | some k' => some ⟨⟨S.top.f, S.top.N, a, k'⟩, S.st, h⟩
    | none => none
  | none => none
def opnM (S : MS) (p : List Nat) (k : List KI) : Code → Option MS
  | .skip => some { S with top := { S.top with k := k } }
  | .seq _ _ => some { S with top := { S.top with k := .code (0 :: p) :: .code (1 :: p) :: k } }
  | .cond c _ _ => match S.top.a.eval c with
    | some (.bool true) => some { S with top := { S.top with k := .code (0 :: p) :: k } }
    | some (.bool false) => some { S with top := { S.top with k := .code (1 :: p) :: k } }
    | _ => none
  | .block id _ => some { S with top := { S.top with k := .code (0 :: p) :: .inBlock id :: k } }
  | .loop _ => some { S with top := { S.top with k := .code (0 :: p) :: .inLoop (0 :: p) :: k } }
  | .region _ ops false => match okOps S.top.N ops.toList with
    | true => some { S with top := { S.top with k := .ops p 0 :: k } }
    | false => none
  | .exit id => match exitK id k with
    | some k' => some { S with top := { S.top with k := k' } }
    | none => none
  | .ret => some { S with top := { S.top with k := [] } }
  | _ => none
/-- a call is opened -/
def callM (P : Program) (S : MS) (p : List Nat) (j : Nat) (k : List KI) (o : Oper) : OutT → Option MS
  | some (.call g args, h) => match P.funcs[g]? with
    | some fn => match fn.body with
      | some _ => match Nat.ble args.length fn.ntmps && okDst S.top.N o with
        | true => some ⟨⟨g, fn.ntmps, ⟨T.put .e 0 args, []⟩, [.code []]⟩, (o.dst, ⟨S.top.f, S.top.N, S.top.a, .ops p (j + 1) :: k⟩) :: S.st, h⟩
        | false => none
      | none => none
    | none => none
  | _ => none
/-- the calls put off and the marks, one behind the other; it returns -/
def dsM (P : Program) (call : CallF) (lf : Nat) (fn : Func) (a : AAct) : List (FuncId × List AV × List AV) → Option AV → AHeap → Option (ARes × AHeap)
  | [], none, h => retA h (resAll P a h fn.results.toList)
  | [], some v, h => some (.panic v, h)
  | (f, args, cap) :: ds, u, h => match isMrk cap with
    | true => match f, args, cap with
      | 0, [], [.mrk D] => match h.get D with
        | some (.obj .dfr) => dsM P call lf fn a ds u (h.put D (.obj .shut))
        | _ => none
      | _, _, _ => none
    | false => match callD P call lf f (args ++ cap) u h with
      | some (u, h) => dsM P call lf fn a ds u h
      | none => none
/-- a frame panics: the frames are left, up to the one that takes it up -/
def fallM (P : Program) (call : CallF) (lf : Nat) : List (Option Tmp × MF) → MF → AV → AHeap → Option MS
  | [], _, _, _ => none
  | (d, fr) :: st, top, v, h => match P.funcs[top.f]? with
    | some fn => match dsM P call lf fn top.a top.a.defers (some v) h with
      | some (.ret x, h) => match (match d with
          | some t => Nat.blt t fr.N
          | none => true) with
        | true => some ⟨{ fr with a := fr.a.put d x }, st, h⟩
        | false => none
      | some (.panic x, h) => fallM P call lf st fr x h
      | none => none
    | none => none
/-- a call is put off -/
def dfrM (S : MS) (p : List Nat) (j : Nat) (k : List KI) (o : Oper) : OutT → Option MS
  | some (.defer f args cap, h) => match okDst S.top.N o with
    | true => some ⟨{ S.top with a := (⟨S.top.a.tmps, (f, args, cap) :: S.top.a.defers⟩ : AAct).put o.dst (.tup []), k := .ops p (j + 1) :: k }, S.st, h⟩
    | false => none
  | _ => none
def noDeferL (l : List Oper) : Bool := l.all fun o => match o.op with
  | .defer _ => false
  | _ => true
def popM (S : MS) : Option (ARes × AHeap) → Option MS
  | some (.ret v, h) => match S.st with
    | (d, fr) :: st => match (match d with
        | some t => Nat.blt t fr.N
        | none => true) with
      | true => some ⟨{ fr with a := fr.a.put d v }, st, h⟩
      | false => none
    | [] => none
  | _ => none
def stepM (P : Program) (both : BothF) (lf : Nat) (S : MS) : MI → Option MS
  | .atom => match S.top.k with
    | .code p :: k => goE S k (codeR P both lf S.top.N none (codeAt (bodyAt P S.top.f) p) S.top.a S.h)
    | _ => none
  | .opn => match S.top.k with
    | .code p :: k => opnM S p k (codeAt (bodyAt P S.top.f) p)
    | _ => none
  | .ops n => match S.top.k with
    | .ops p j :: k => match okOps S.top.N (opsIn (codeAt (bodyAt P S.top.f) p)).toList && noDeferL (((opsIn (codeAt (bodyAt P S.top.f) p)).toList.drop j).take n) with
      | true => match opsR P both (opsIn (codeAt (bodyAt P S.top.f) p)) (((opsIn (codeAt (bodyAt P S.top.f) p)).toList.drop j).take n) S.top.a S.h with
        | some (.normal, a, h) => some ⟨{ S.top with a := a, k := .ops p (j + n) :: k }, S.st, h⟩
        | _ => none
      | false => none
    | _ => none
  | .call => match S.top.k with
    | .ops p j :: k => match (opsIn (codeAt (bodyAt P S.top.f) p)).toList.drop j with
      | o :: _ => match o.op with
        | .defer _ => none
        | _ => match wantedT (opsIn (codeAt (bodyAt P S.top.f) p)) S.top.a.tmps.get o.guard with
          | some true => callM P S p j k o (opA P S.top.a.eval o S.h)
          | _ => none
      | [] => none
    | _ => none
  | .dfr => match S.top.k with
    | .ops p j :: k => match (opsIn (codeAt (bodyAt P S.top.f) p)).toList.drop j with
      | o :: _ => match wantedT (opsIn (codeAt (bodyAt P S.top.f) p)) S.top.a.tmps.get o.guard with
        | some true => dfrM S p j k o (opA P S.top.a.eval o S.h)
        | _ => none
      | [] => none
    | _ => none
  | .fall => match S.top.k with
    | .code p :: _ => match codeR P both lf S.top.N none (codeAt (bodyAt P S.top.f) p) S.top.a S.h with
      | some (.panic v, a, h) => fallM P (both false) lf S.st { S.top with a := a } v h
      | _ => none
    | .ops p j :: _ => match okOps S.top.N (opsIn (codeAt (bodyAt P S.top.f) p)).toList && noDeferL (((opsIn (codeAt (bodyAt P S.top.f) p)).toList.drop j).take 1) with
      | true => match opsR P both (opsIn (codeAt (bodyAt P S.top.f) p)) (((opsIn (codeAt (bodyAt P S.top.f) p)).toList.drop j).take 1) S.top.a S.h with
        | some (.panic v, a, h) => fallM P (both false) lf S.st { S.top with a := a } v h
        | _ => none
      | false => none
    | _ => none
  | .pop => match S.top.k with
    | [] => match P.funcs[S.top.f]? with
      | some fn => popM S (dsM P (both false) lf fn S.top.a S.top.a.defers none S.h)
      | none => none
    | _ => none
  | .pass => match S.top.k with
    | .inBlock _ :: k => some { S with top := { S.top with k := k } }
    | .inLoop p :: k => some { S with top := { S.top with k := .code p :: .inLoop p :: k } }
    | .ops p j :: k => match (opsIn (codeAt (bodyAt P S.top.f) p)).toList.drop j with
      | [] => some { S with top := { S.top with k := k } }
      | _ => none
    | _ => none
  | .rounds _ => none
def nextM (ih : MS → Option MS) : Option MS → Option MS
  | some S => ih S
  | none => none
def roundM (P : Program) (both : BothF) (lf : Nat) (S : MS) : Option MS := nextM (fun S => stepM P both lf S .atom) (stepM P both lf S .pass)
/-- so many rounds of a loop -/
def roundsM (P : Program) (both : BothF) (lf : Nat) (n : Nat) : MS → Option MS := @Nat.rec (fun _ => MS → Option MS) (fun S => some S) (fun _ ih S => nextM ih (roundM P both lf S)) n
def stepX (P : Program) (both : BothF) (lf : Nat) (S : MS) : MI → Option MS
  | .rounds n => roundsM P both lf n S
  | i => stepM P both lf S i
def runMI (P : Program) (both : BothF) (lf : Nat) : List MI → MS → Option MS
  | [], S => some S
  | i :: l, S => nextM (runMI P both lf l) (stepX P both lf S i)
def runM (P : Program) (both : BothF) (lf : Nat) (l : List MI) : MS → Option MS :=
  @List.rec MI (fun _ => MS → Option MS) (fun S => some S) (fun i _ ih S => nextM ih (stepX P both lf S i)) l
/-- it is about to return true -/
def lastM (P : Program) (S : MS) : Bool := match S.top.k, S.st, P.funcs[S.top.f]? with
  | [], [], some fn => saysTrue (dsM P (fun _ _ _ => none) 0 fn S.top.a S.top.a.defers none S.h)
  | _, _, _ => false

/-! ### states as texts -/
structure LF where
  f : FuncId
  N : Nat
  l : Fr
  ds : List (FuncId × List AV × List AV)
  k : List KI
inductive LO where
  | row (l : List AV) (e : TypeId)
  | map (es : List (AV × AV))
  | glob (l : List AV)
  | dfr
structure LS where
  top : LF
  st : List (Option Tmp × LF)
  next : Nat
  ex : List Nat
  obs : List (Nat × LO)
def LO.obj : LO → AObj
  | .row l e => rowOf l e
  | .map es => .map es
  | .glob l => .glob (T.put .e 0 l)
  | .dfr => .obj .dfr
def obTree : List (Nat × LO) → T AObj
  | [] => .e
  | (b, o) :: r => (obTree r).set b o.obj
def LF.mf (x : LF) : MF := ⟨x.f, x.N, ⟨x.l.tree, x.ds⟩, x.k⟩
def LS.ms (x : LS) : MS := ⟨x.top.mf, x.st.map fun y => (y.1, y.2.mf), ⟨x.next, x.ex, obTree x.obs⟩⟩
def sameN : List Nat → List Nat → Bool
  | [], [] => true
  | a :: l, b :: m => Nat.beq a b && sameN l m
  | _, _ => false
def sameKI : KI → KI → Bool
  | .code p, .code q => sameN p q
  | .inLoop p, .inLoop q => sameN p q
  | .inBlock i, .inBlock j => Nat.beq i j
  | .ops p i, .ops q j => sameN p q && Nat.beq i j
  | _, _ => false
def sameK : List KI → List KI → Bool
  | [], [] => true
  | a :: l, b :: m => sameKI a b && sameK l m
  | _, _ => false
def sameD : List (FuncId × List AV × List AV) → List (FuncId × List AV × List AV) → Bool
  | [], [] => true
  | (f, a, b) :: l, (g, c, d) :: m => Nat.beq f g && AV.sameL a c && AV.sameL b d && sameD l m
  | _, _ => false
def sameT : Option Tmp → Option Tmp → Bool
  | none, none => true
  | some a, some b => Nat.beq a b
  | _, _ => false
def slotsIn (t : T AV) : Fr → Bool
  | [] => true
  | (i, v) :: l => sameO (t.get i) (some v) && slotsIn t l
def coversF (x : MF) (y : LF) : Bool := Nat.beq x.f y.f && Nat.beq x.N y.N && sameD x.a.defers y.ds && sameK x.k y.k && slotsIn x.a.tmps y.l
def coversS : List (Option Tmp × MF) → List (Option Tmp × LF) → Bool
  | [], [] => true
  | (d, x) :: l, (e, y) :: m => sameT d e && coversF x y && coversS l m
  | _, _ => false
def sameM : List (AV × AV) → List (AV × AV) → Bool
  | [], [] => true
  | (a, b) :: l, (c, d) :: m => AV.same a c && AV.same b d && sameM l m
  | _, _ => false
def cellsIn (t : T AV) : Nat → List AV → Bool
  | _, [] => true
  | i, v :: l => sameO (t.get i) (some v) && cellsIn t (i + 1) l
def coversO : Option AObj → LO → Bool
  | some (.row n t e), .row l e' => Nat.beq n l.length && Nat.beq e e' && cellsIn t 0 l
  | some (.map es), .map es' => sameM es es'
  | some (.glob t), .glob l => cellsIn t 0 l
  | some (.obj .dfr), .dfr => true
  | _, _ => false
def coversH (h : AHeap) : List (Nat × LO) → Bool
  | [] => true
  | (b, o) :: l => coversO (h.get b) o && coversH h l
/-- the state has what the text says -/
def covers (S : MS) (L : LS) : Bool := coversF S.top L.top && coversS S.st L.st && Nat.beq S.h.next L.next && sameN S.h.ex L.ex && coversH S.h L.obs
def pieceM (P : Program) (both : BothF) (lf : Nat) (A : LS) (l : List MI) (B : LS) : Bool := match runM P both lf l A.ms with
  | some S => covers S B
  | none => false
def endM (P : Program) (both : BothF) (lf : Nat) (A : LS) (l : List MI) : Bool := match runM P both lf l A.ms with
  | some S => lastM P S
  | none => false
end
end Go.Proofs.Ytpnccmlajhhpdaa.Abs
