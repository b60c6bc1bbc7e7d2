/- A small machine of one's own: values, rows, operations, code, calls, as plain functions. What it comes to is what the program does (the files behind it). -/
import Derived.WalkKit
import Derived.Orders
namespace Go.Proofs.Ytpnccmlajhhpdaa.Abs
noncomputable section

inductive AV where
  | bool (b : Bool)
  | int (k : IntKind) (n : Int)
  | str (n v : Nat)
  | ptr (b o : Nat)
  | nilp
  | sl (b o n sz : Nat)
  | nsl
  | esl
  | mp (b : Nat)
  | nmp
  | fn (f : FuncId) (first captured : List AV)
  | nfn
  | ifc (t : TypeId) (v : AV)
  | nifc
  | agg (l : List AV)
  | tup (l : List AV)
  | yld (b : Nat)
  | mrk (b : Nat)
  | gptr (g o : Nat)
  deriving Inhabited

inductive Path where
  | z
  | a (p : Path)
  | b (p : Path)
  | c (p : Path)
  | d (p : Path)

def pathN : Nat → Nat → Path
  | 0, _ => .z
  | f + 1, i => match i with
    | 0 => .z
    | i + 1 => match i % 4 with
      | 0 => .a (pathN f (i / 4))
      | 1 => .b (pathN f (i / 4))
      | 2 => .c (pathN f (i / 4))
      | _ => .d (pathN f (i / 4))
/-- where number i stands in a tree -/
def pathOf (i : Nat) : Path := pathN i i

/-- a tree by number -/
inductive T (α : Type) where
  | e
  | n (v : Option α) (a b c d : T α)
  deriving Inhabited

def T.getI {α : Type} : Path → T α → Option α
  | .z, t => T.casesOn t none (fun v _ _ _ _ => v)
  | .a p, t => T.casesOn t none (fun _ a _ _ _ => T.getI p a)
  | .b p, t => T.casesOn t none (fun _ _ b _ _ => T.getI p b)
  | .c p, t => T.casesOn t none (fun _ _ _ c _ => T.getI p c)
  | .d p, t => T.casesOn t none (fun _ _ _ _ d => T.getI p d)
def T.setI {α : Type} : Path → T α → α → T α
  | .z, t, x => T.casesOn t (.n (some x) .e .e .e .e) (fun _ a b c d => .n (some x) a b c d)
  | .a p, t, x => T.casesOn t (.n none (T.setI p .e x) .e .e .e) (fun v a b c d => .n v (T.setI p a x) b c d)
  | .b p, t, x => T.casesOn t (.n none .e (T.setI p .e x) .e .e) (fun v a b c d => .n v a (T.setI p b x) c d)
  | .c p, t, x => T.casesOn t (.n none .e .e (T.setI p .e x) .e) (fun v a b c d => .n v a b (T.setI p c x) d)
  | .d p, t, x => T.casesOn t (.n none .e .e .e (T.setI p .e x)) (fun v a b c d => .n v a b c (T.setI p d x))
def T.getP {α : Type} (p : Path) : T α → Option α := @Path.rec (fun _ => T α → Option α)
  (fun t => T.casesOn t none (fun v _ _ _ _ => v)) (fun _ ih t => T.casesOn t none (fun _ a _ _ _ => ih a)) (fun _ ih t => T.casesOn t none (fun _ _ b _ _ => ih b))
  (fun _ ih t => T.casesOn t none (fun _ _ _ c _ => ih c)) (fun _ ih t => T.casesOn t none (fun _ _ _ _ d => ih d)) p
def T.setP {α : Type} (p : Path) : T α → α → T α := @Path.rec (fun _ => T α → α → T α)
  (fun t x => T.casesOn t (.n (some x) .e .e .e .e) (fun _ a b c d => .n (some x) a b c d))
  (fun _ ih t x => T.casesOn t (.n none (ih .e x) .e .e .e) (fun v a b c d => .n v (ih a x) b c d))
  (fun _ ih t x => T.casesOn t (.n none .e (ih .e x) .e .e) (fun v a b c d => .n v a (ih b x) c d))
  (fun _ ih t x => T.casesOn t (.n none .e .e (ih .e x) .e) (fun v a b c d => .n v a b (ih c x) d))
  (fun _ ih t x => T.casesOn t (.n none .e .e .e (ih .e x)) (fun v a b c d => .n v a b c (ih d x))) p
def T.get {α : Type} (t : T α) (i : Nat) : Option α := T.getP (pathOf i) t
def T.set {α : Type} (t : T α) (i : Nat) (x : α) : T α := T.setP (pathOf i) t x
/-- a list, from a place on -/
def T.put {α : Type} : T α → Nat → List α → T α
  | t, _, [] => t
  | t, i, x :: l => (t.set i x).put (i + 1) l
/-- n of them, from a place on -/
def T.take {α : Type} (t : T α) : Nat → Nat → Option (List α)
  | _, 0 => some []
  | i, k + 1 => match t.get i, t.take (i + 1) k with
    | some x, some l => some (x :: l)
    | _, _ => none

/-- how a round was left: none: at its end; ret; exit from a block -/
inductive AJump where
  | none
  | ret
  | exit (id : Nat)
def AJump.code : AJump → Option Code
  | .none => Option.none
  | .ret => some .ret
  | .exit id => some (.exit id)
def AJump.isNone : AJump → Bool
  | .none => true
  | _ => false
/-- a loop over a function, under way -/
structure ALoop where
  st : LoopState
  pend : AJump
  tmps : T AV
  N : Nat
  ps : Array Tmp
  assign : Code
  body : Code
  dfr : Nat
/-- what is kept beside rows and maps: a loop over a function; the rounds' deferred calls (none); these, taken -/
inductive AKeep where
  | loop (r : ALoop)
  | dfr
  | shut
inductive AObj where
  | row (n : Nat) (t : T AV) (e : TypeId)
  | map (es : List (AV × AV))
  | dead
  | ro (t : T AV)
  | obj (q : AKeep)
  | glob (t : T AV)
instance : Inhabited AObj := ⟨.dead⟩

def memB (i : Nat) : List Nat → Bool
  | [] => false
  | j :: l => Nat.beq i j || memB i l
/-- ex: rows of these types lie in blocks of their own -/
structure AHeap where
  next : Nat
  ex : List Nat
  tree : T AObj
  deriving Inhabited

def AHeap.get (h : AHeap) (b : Nat) : Option AObj := h.tree.get b
def AHeap.put (h : AHeap) (b : Nat) (o : AObj) : AHeap := ⟨h.next, h.ex, h.tree.set b o⟩
def AHeap.new (h : AHeap) (o : AObj) : AHeap := ⟨h.next + 1, h.ex, h.tree.set h.next o⟩
def rowOf (l : List AV) (e : TypeId) : AObj := .row l.length (T.put .e 0 l) e

/-- a text as one number, the first byte lowest -/
def encI : List UInt8 → Nat
  | [] => 0
  | b :: l => b.toNat + 256 * encI l
def enc (l : List UInt8) : Nat := @List.rec UInt8 (fun _ => Nat) 0 (fun b _ ih => b.toNat + 256 * ih) l

mutual
/-- of a constant -/
def ofVal : Value → Option AV
  | .bool b => some (.bool b)
  | .int k n => some (.int k n)
  | .string s => some (.str s.data.toList.length (enc s.data.toList))
  | .pointer none => some .nilp
  | .slice none 0 0 => some .nsl
  | .map none => some .nmp
  | .nilFunc => some .nfn
  | .nilIface => some .nifc
  | .iface t v => match ofVal v with
    | some x => some (.ifc t x)
    | none => none
  | .agg ⟨l⟩ => match ofVals l with
    | some x => some (.agg x)
    | none => none
  | .tuple ⟨l⟩ => match ofVals l with
    | some x => some (.tup x)
    | none => none
  | .func (.func f) ⟨a⟩ ⟨b⟩ => match ofVals a, ofVals b with
    | some x, some y => some (.fn f x y)
    | _, _ => none
  | _ => none
def ofVals : List Value → Option (List AV)
  | [] => some []
  | v :: l => match ofVal v, ofVals l with
    | some x, some y => some (x :: y)
    | _, _ => none
end

def AV.cells : AV → List AV
  | .agg l => l
  | v => [v]
def AV.one : AV → Bool
  | .agg _ | .tup _ => false
  | .mrk _ => false
  | _ => true

inductive ANext where
  | val (v : AV)
  | skip
  | call (f : FuncId) (args : List AV)
  | panic (v : AV)
  | defer (f : FuncId) (args cap : List AV)
  | round (b : Nat) (args : List AV)

abbrev OutT := Option (ANext × AHeap)
abbrev RhoT := Operand → Option AV

def isRowD : TypeDesc → Bool
  | .struct _ => true
  | .array _ _ => true
  | _ => false
def aggO (P : Program) (t : TypeId) : Option Bool := match P.underlying t with
  | some d => some (isRowD d)
  | none => none

def rowGet (h : AHeap) (b o n : Nat) : Option (List AV) :=
  match h.get b with
  | some (.row _ t _) => t.take o n
  | some (.ro t) => t.take o n
  | some (.glob t) => t.take o n
  | _ => none
def cellGet (h : AHeap) (b o : Nat) : Option AV :=
  match h.get b with
  | some (.row _ t _) => t.get o
  | some (.ro t) => t.get o
  | some (.glob t) => t.get o
  | _ => none
def rowPut (h : AHeap) (b o : Nat) (l : List AV) : Option AHeap :=
  match h.get b with
  | some (.row n t e) => if Nat.ble (o + l.length) n = true ∧ l.all AV.one = true then some (h.put b (.row n (t.put o l) e)) else none
  | _ => none

def outV (h : AHeap) : Option AV → OutT
  | some x => some (.val x, h)
  | none => none

/-- a new row: its address -/
def outNew (h : AHeap) (e : TypeId) (l : List AV) : OutT := if l.all AV.one = true then some (.val (.ptr h.next 0), h.new (rowOf l e)) else none
/-- a new row: a slice of n elements -/
def outNewS (h : AHeap) (e : TypeId) (l : List AV) (n sz : Nat) : OutT := if l.all AV.one = true ∧ memB e h.ex = false then some (.val (.sl h.next 0 n sz), h.new (rowOf l e)) else none

def zeroA (P : Program) (t : TypeId) : Option AV := match P.info? t with
  | some i => match i.zero with
    | some v => match ofVal v with
      | some x => if x.cells.length = i.size then some x else none
      | none => none
    | none => none
  | none => none

def partA (P : Program) (t : TypeId) (cs : List AV) (o : Nat) : Option AV :=
  match aggO P t with
  | some true => if Nat.ble (o + P.cellsOf t) cs.length = true then some (.agg ((cs.drop o).take (P.cellsOf t))) else none
  | some false => cs[o]?
  | none => none

/-- a list into another one, from a place on -/
def lput {α : Type} : List α → Nat → List α → List α
  | cs, _, [] => cs
  | [], _, _ => []
  | _ :: cs, 0, v :: vs => v :: lput cs 0 vs
  | c :: cs, o + 1, vs => c :: lput cs o vs

def fillA (place : Nat → Option (Nat × Nat)) (cells : List AV) : List (Nat × AV) → Option (List AV)
  | [] => some cells
  | (i, v) :: rest => match place i with
    | none => none
    | some (off, size) => if v.cells.length = size ∧ off + size ≤ cells.length then fillA place (lput cells off v.cells) rest else none

def elemOf (P : Program) (t : TypeId) : Option TypeId := match P.underlying t with
  | some (.slice e) => some e
  | _ => none

/-! ### values that are one -/
mutual
def eqA (P : Program) : Nat → TypeId → AV → AV → Option Bool
  | 0, _, _, _ => none
  | d + 1, t, x, y =>
    match P.underlying t with
    | some .bool => match x, y with
      | .bool a, .bool b => some (a == b)
      | _, _ => none
    | some (.int _) => match x, y with
      | .int k a, .int k' b => if k = k' then some (a == b) else none
      | _, _ => none
    | some .string => match x, y with
      | .str n a, .str m b => some (Nat.beq n m && Nat.beq a b)
      | _, _ => none
    | some (.struct _) => match x, y with
      | .agg xs, .agg ys => if P.stoodInHeld t then none else eqFields P d (P.fieldsOf t).toList xs ys
      | _, _ => none
    | some (.array n e) => match x, y with
      | .agg xs, .agg ys => match P.info? e with
        | some _ => eqElems P d e (P.cellsOf e) n 0 xs ys
        | none => none
      | _, _ => none
    | _ => none
def eqFields (P : Program) : Nat → List Field → List AV → List AV → Option Bool
  | 0, _, _, _ => none
  | _ + 1, [], _, _ => some true
  | d + 1, f :: fs, xs, ys =>
    if f.name = "_" then eqFields P d fs xs ys else
    match partA P f.type xs f.offset, partA P f.type ys f.offset with
    | some a, some b => match eqA P d f.type a b with
      | some true => eqFields P d fs xs ys
      | r => r
    | _, _ => none
def eqElems (P : Program) : Nat → TypeId → Nat → Nat → Nat → List AV → List AV → Option Bool
  | 0, _, _, _, _, _, _ => none
  | _ + 1, _, _, 0, _, _, _ => some true
  | d + 1, e, s, n + 1, i, xs, ys =>
    match partA P e xs (i * s), partA P e ys (i * s) with
    | some a, some b => match eqA P d e a b with
      | some true => eqElems P d e s n (i + 1) xs ys
      | r => r
    | _, _ => none
end

def binInt (op : BinOp) (k : IntKind) (a b : Int) : Option AV :=
    match op with
    | .add => some (.int k (k.wrap (a + b)))
    | .sub => some (.int k (k.wrap (a - b)))
    | .mul => some (.int k (k.wrap (a * b)))
    | .quo => if b = 0 then none else some (.int k (k.wrap (a.tdiv b)))
    | .rem => if b = 0 then none else some (.int k (a.tmod b))
    | .and => some (.int k (k.wrap (BitVec.ofInt k.bits a &&& BitVec.ofInt k.bits b).toNat))
    | .or => some (.int k (k.wrap (BitVec.ofInt k.bits a ||| BitVec.ofInt k.bits b).toNat))
    | .xor => some (.int k (k.wrap (BitVec.ofInt k.bits a ^^^ BitVec.ofInt k.bits b).toNat))
    | .andNot => some (.int k (k.wrap (BitVec.ofInt k.bits a &&& ~~~ BitVec.ofInt k.bits b).toNat))
    | .eql => some (.bool (a == b))
    | .neq => some (.bool (a != b))
    | .lss => some (.bool (a < b))
    | .leq => some (.bool (a ≤ b))
    | .gtr => some (.bool (a > b))
    | .geq => some (.bool (a ≥ b))
    | _ => none
def binStr (op : BinOp) (n a m b : Nat) : Option AV :=
    match op with
    | .add => if Nat.ble (n + m) 1000000000 = true then some (.str (n + m) (a + 256 ^ n * b)) else none
    | .eql => some (.bool (Nat.beq n m && Nat.beq a b))
    | .neq => some (.bool (!(Nat.beq n m && Nat.beq a b)))
    | _ => none
def binShift (op : BinOp) (k : IntKind) (a b : Int) : Option AV :=
  if b < 0 then none else match op with
  | .shl => some (.int k (k.wrap (a * 2 ^ (min b.toNat k.bits))))
  | .shr => some (.int k (a.fdiv (2 ^ (min b.toNat k.bits))))
  | _ => none
def binII (op : BinOp) (k k' : IntKind) (a b : Int) : Option AV := match op with
  | .shl => binShift .shl k a b
  | .shr => binShift .shr k a b
  | op => if k = k' then binInt op k a b else none

/-- a test against nil -/
def nilA : AV → AV → Option Bool
  | .nilp, .nilp => some true
  | .nilp, .ptr _ _ => some false
  | .ptr _ _, .nilp => some false
  | .nsl, .nsl => some true
  | .nsl, .sl .. => some false
  | .nsl, .esl => some false
  | .sl .., .nsl => some false
  | .esl, .nsl => some false
  | .nmp, .nmp => some true
  | .nmp, .mp _ => some false
  | .mp _, .nmp => some false
  | .nfn, .nfn => some true
  | .nfn, .fn .. => some false
  | .fn .., .nfn => some false
  | .nifc, .ifc _ _ => some false
  | .ifc _ _, .nifc => some false
  | _, _ => none
def isNilOk (P : Program) (t : TypeId) (x y : AV) : Bool := match P.underlying t, x, y with
  | some (.pointer _), .nilp, _ => true
  | some (.pointer _), _, .nilp => true
  | some (.slice _), .nsl, _ => true
  | some (.slice _), _, .nsl => true
  | some (.map _ _), .nmp, _ => true
  | some (.map _ _), _, .nmp => true
  | some (.func _ _ _), .nfn, _ => true
  | some (.func _ _ _), _, .nfn => true
  | some (.interface _), .nifc, _ => true
  | some (.interface _), _, .nifc => true
  | _, _, _ => false
/-- one pointer, held against itself -/
def samePtr (P : Program) (t : TypeId) (b o : Nat) : AV → Option Bool
  | .ptr b' o' => match P.underlying t with
    | some (.pointer e) => if Nat.beq b b' = true ∧ Nat.beq o o' = true ∧ (P.info? e).isSome then some true else none
    | _ => none
  | .nilp => match P.underlying t with
    | some (.pointer _) => some false
    | _ => none
  | _ => none
def eqOther (P : Program) (t : TypeId) (x y : AV) : Option Bool := match x with
  | .agg _ => if P.eqGuardType P.depth t then none else eqA P 2000 t x y
  | .bool _ => eqA P 2000 t x y
  | .ptr b o => samePtr P t b o y
  | _ => if isNilOk P t x y then nilA x y else none
def binOther (P : Program) (op : BinOp) (t : TypeId) (x y : AV) : Option AV :=
  match op with
  | .eql => match eqOther P t x y with
    | some b => some (.bool b)
    | none => none
  | .neq => match eqOther P t x y with
    | some b => some (.bool (!b))
    | none => none
  | _ => none
/-- two nil interfaces, one of them the literal -/
def nilIf (op : BinOp) (P : Program) (t : TypeId) : Option AV := match P.underlying t, op with
  | some (.interface _), .eql => some (.bool true)
  | some (.interface _), .neq => some (.bool false)
  | _, _ => none
def binA (P : Program) (op : BinOp) (t : TypeId) (x y : AV) (lit : Bool) : Option AV :=
  match x with
  | .int k a => match y with
    | .int k' b => binII op k k' a b
    | _ => none
  | .str n a => match y with
    | .str m b => binStr op n a m b
    | _ => none
  | .nifc => match y with
    | .nifc => if lit then nilIf op P t else none
    | y => binOther P op t .nifc y
  | x => binOther P op t x y

/-! ### rows that grow -/
def lenA : AV → Option Nat
  | .sl _ _ n _ => some n
  | .esl | .nsl => some 0
  | .str n _ => some n
  | _ => none
/-- the bytes of a text -/
def strCells : Nat → Nat → List AV
  | 0, _ => []
  | n + 1, v => .int .u8 ((v % 256 : Nat) : Int) :: strCells n (v / 256)
def firstA (h : AHeap) (sz n : Nat) : AV → Option (List AV)
  | .sl b o m sz' => if sz' = sz ∧ n ≤ m then rowGet h b o (n * sz) else none
  | .esl | .nsl => if n = 0 then some [] else none
  | .str m v => if Nat.ble n m = true ∧ sz = 1 then some (strCells n v) else none
  | _ => none
def rowType (h : AHeap) (b : Nat) : Option TypeId := match h.get b with
  | some (.row _ _ e) => some e
  | _ => none
def appendRow (h : AHeap) (e b o m sz : Nat) (news : List AV) (n : Nat) : OutT :=
  match rowGet h b o (m * sz), rowType h b with
  | some cs, some e' => if Nat.beq e' e = true then some (.val (.sl h.next 0 (m + n) sz), (h.put b .dead).new (rowOf (cs ++ news) e)) else none
  | _, _ => none
def appendA (h : AHeap) (e sz : Nat) (s : AV) (news : List AV) (n : Nat) : OutT :=
  match s with
  | .nsl => match n with
    | 0 => some (.val .nsl, h)
    | n + 1 => some (.val (.sl h.next 0 (n + 1) sz), h.new (rowOf news e))
  | .sl b o m sz' => match n with
    | 0 => some (.val (.sl b o m sz'), h)
    | n + 1 => if sz' = sz then appendRow h e b o m sz news (n + 1) else none
  | _ => none
def bytesFit (P : Program) (e : TypeId) (n : Nat) : Bool := match P.info? e with
  | some i => Nat.ble (n * i.bytes) 1000000000 && Nat.ble n 1000000000 && Nat.ble 1 i.size && i.zero.any (fun z => z.cells.size == i.size)
  | none => false
def opAppend (P : Program) (h : AHeap) (t u : TypeId) (s x : AV) : OutT :=
  match elemOf P t, lenA s, lenA x, P.underlying u with
  | some e, some m, some n, some ud => match ud with
    | .int _ => none
    | _ => match firstA h (P.cellsOf e) n x with
      | some news => if bytesFit P e (m + n) = true ∧ news.all AV.one = true ∧ memB e h.ex = false then appendA h e (P.cellsOf e) s news n else none
      | none => none
  | _, _, _, _ => none
def opCopy (P : Program) (h : AHeap) (t : TypeId) (d s : AV) : OutT :=
  match elemOf P t, lenA d, lenA s with
  | some e, some m, some n => match firstA h (P.cellsOf e) (Nat.min n m) s with
    | some cs => match d with
      | .sl b o _ sz => if sz = P.cellsOf e ∧ (P.info? e).isSome then match rowPut h b o cs with
          | some h => some (.val (.int .i64 (Nat.min n m : Nat)), h)
          | none => none
        else none
      | .esl => match cs with
        | [] => if (P.info? e).isSome then some (.val (.int .i64 (Nat.min n m : Nat)), h) else none
        | _ => none
      | _ => none
    | none => none
  | _, _, _ => none
/-! ### maps whose keys are whole numbers, texts, bools -/
def mapGet (h : AHeap) : AV → Option (List (AV × AV))
  | .nmp => some []
  | .mp b => match h.get b with
    | some (.map es) => some es
    | _ => none
  | _ => none
def sameKey (k x : AV) : Option Bool := match k with
  | .int a n => match x with
    | .int b m => if a = b then some (n == m) else none
    | _ => none
  | .str n s => match x with
    | .str m u => some (Nat.beq n m && Nat.beq s u)
    | _ => none
  | .bool s => match x with
    | .bool u => some (s == u)
    | _ => none
  | _ => none
def plainKT (P : Program) (t : TypeId) : Bool := match P.underlying t with
  | some (.int _) => true
  | some .string => true
  | some .bool => true
  | _ => false
/-- a struct whose fields are whole numbers, texts, bools -/
def keyFs (P : Program) (l : List AV) : List Field → Bool
  | [] => true
  | f :: fs => (f.name != "_") && plainKT P f.type && (partA P f.type l f.offset).isSome && keyFs P l fs
def keyCells : List AV → List AV → Bool
  | [], [] => true
  | a :: l, b :: m => match sameKey a b with
    | some true => keyCells l m
    | _ => false
  | _, _ => false
/-- is it the same key: of a type -/
def keySame (P : Program) (t : TypeId) (k x : AV) : Option Bool := match k with
  | .agg l => match x with
    | .agg m => match eqA P 64 t (.agg l) (.agg m) with
      | some true => match keyCells l m with
        | true => some true
        | false => none
      | r => r
    | _ => none
  | k => sameKey k x
def keyT (P : Program) (t : TypeId) (k : AV) : Bool := match P.underlying t with
  | some (.int _) => match k with
    | .int .. => true
    | _ => false
  | some .string => match k with
    | .str _ _ => true
    | _ => false
  | some .bool => match k with
    | .bool _ => true
    | _ => false
  | some (.struct fs) => match k with
    | .agg l => keyFs P l fs.toList
    | _ => false
  | _ => false
def findM (P : Program) (t : TypeId) (k : AV) : List (AV × AV) → Option (Option AV)
  | [] => some none
  | (x, v) :: es => match keySame P t k x with
    | some true => some (some v)
    | some false => findM P t k es
    | none => none
def putM (P : Program) (t : TypeId) (k v : AV) : List (AV × AV) → Option (List (AV × AV))
  | [] => some [(k, v)]
  | (x, u) :: es => match keySame P t k x with
    | some true => some ((k, v) :: es)
    | some false => match putM P t k v es with
      | some r => some ((x, u) :: r)
      | none => none
    | none => none
def delM (P : Program) (t : TypeId) (k : AV) : List (AV × AV) → Option (List (AV × AV))
  | [] => some []
  | (x, u) :: es => match keySame P t k x with
    | some true => some es
    | some false => match delM P t k es with
      | some r => some ((x, u) :: r)
      | none => none
    | none => none
def lookOut (P : Program) (h : AHeap) (et : TypeId) (ok : Bool) : Option (Option AV) → OutT
  | some (some x) => some (.val (if ok then .tup [x, .bool true] else x), h)
  | some none => match zeroA P et with
    | some z => some (.val (if ok then .tup [z, .bool false] else z), h)
    | none => none
  | none => none
def opLookup (P : Program) (h : AHeap) (t : TypeId) (ok : Bool) : Option AV → Option AV → OutT
  | some m, some k => match P.underlying t with
    | some (.map kt et) => if keyT P kt k then match mapGet h m with
        | some es => lookOut P h et ok (findM P kt k es)
        | none => none
      else none
    | _ => none
  | _, _ => none
def mapPut (h : AHeap) (b : Nat) : Option (List (AV × AV)) → OutT
  | some es => some (.skip, h.put b (.map es))
  | none => none
def opMapUpdate (P : Program) (h : AHeap) (t : TypeId) : Option AV → Option AV → Option AV → OutT
  | some (.mp b), some k, some x => match P.underlying t with
    | some (.map kt _) => if keyT P kt k then match mapGet h (.mp b) with
        | some es => mapPut h b (putM P kt k x es)
        | none => none
      else none
    | _ => none
  | _, _, _ => none
def opDelete (P : Program) (h : AHeap) (t : TypeId) (m k : AV) : OutT := match m, P.underlying t with
  | .mp b, some (.map kt _) => if keyT P kt k then match mapGet h (.mp b) with
      | some es => match delM P kt k es with
        | some es => some (.val (.tup []), h.put b (.map es))
        | none => none
      | none => none
    else none
  | _, _ => none
def opMakeMap (h : AHeap) : Option Operand → OutT
  | none => some (.val (.mp h.next), h.new (.map []))
  | some _ => none
def opClear (P : Program) (h : AHeap) (t : TypeId) (x : AV) : OutT := match elemOf P t with
  | some e => match x with
    | .nsl => some (.val (.tup []), h)
    | .esl => some (.val (.tup []), h)
    | .sl b o n sz => match zeroA P e with
      | some z => if sz = P.cellsOf e then match rowPut h b o (List.replicate n z.cells).flatten with
          | some h => some (.val (.tup []), h)
          | none => none
        else none
      | none => none
    | _ => none
  | none => none
def opLen (P : Program) (h : AHeap) (t : TypeId) (x : AV) : OutT := match P.underlying t with
  | some (.array n _) => some (.val (.int .i64 (n : Int)), h)
  | some .string => match x with
    | .str n _ => some (.val (.int .i64 (n : Int)), h)
    | _ => none
  | some (.slice _) => match x with
    | .sl _ _ n _ => some (.val (.int .i64 (n : Int)), h)
    | .esl | .nsl => some (.val (.int .i64 0), h)
    | _ => none
  | some (.map _ _) => match mapGet h x with
    | some es => some (.val (.int .i64 (es.length : Int)), h)
    | none => none
  | _ => none
def minInts (k : IntKind) : Int → List AV → Option AV
  | m, [] => some (.int k m)
  | m, .int _ n :: l => minInts k (if n < m then n else m) l
  | _, _ => none
def maxInts (k : IntKind) : Int → List AV → Option AV
  | m, [] => some (.int k m)
  | m, .int _ n :: l => maxInts k (if n > m then n else m) l
  | _, _ => none
/-- bytes as a text: its length, its number -/
def bytesA : List AV → Option (Nat × Nat)
  | [] => some (0, 0)
  | .int .u8 (.ofNat b) :: l => match bytesA l with
    | some (n, v) => if Nat.blt b 256 = true then some (n + 1, b + 256 * v) else none
    | none => none
  | _ => none
def opSliceData (h : AHeap) : AV → OutT
  | .sl b o (_ + 1) _ => some (.val (.ptr b o), h)
  | .nsl => some (.val .nilp, h)
  | _ => none
/-- the text of a row's bytes; the row is used up -/
def opUnsafeStr (P : Program) (h : AHeap) (pt : TypeId) : AV → AV → OutT
  | .nilp, .int _ (.ofNat 0) => some (.val (.str 0 0), h)
  | .ptr _ _, .int _ (.ofNat 0) => some (.val (.str 0 0), h)
  | .ptr b o, .int _ (.ofNat (n + 1)) => match P.underlying pt, rowGet h b o (n + 1), rowType h b with
    | some (.pointer e), some cs, some e' => if Nat.beq e' e = true ∧ Nat.beq (P.cellsOf e) 1 = true ∧ Nat.ble (n + 1) 1000000000 = true then match bytesA cs with
        | some (m, v) => some (.val (.str m v), h.put b .dead)
        | none => none
      else none
    | _, _, _ => none
  | _, _ => none
def builtinA (P : Program) (b : Builtin) (ts : Array TypeId) (args : List AV) (h : AHeap) : OutT :=
  match b with
  | .len => match args, ts.toList with
    | [x], t :: _ => opLen P h t x
    | _, _ => none
  | .append => match args, ts.toList with
    | [s, x], t :: u :: _ => opAppend P h t u s x
    | _, _ => none
  | .copy => match args, ts.toList with
    | [d, s], t :: _ => opCopy P h t d s
    | _, _ => none
  | .clear => match args, ts.toList with
    | [x], t :: _ => opClear P h t x
    | _, _ => none
  | .delete => match args, ts.toList with
    | [m, k], t :: _ => opDelete P h t m k
    | _, _ => none
  | .max => match args with
    | .int k a :: rest => outV h (maxInts k a rest)
    | _ => none
  | .min => match args with
    | .int k a :: rest => outV h (minInts k a rest)
    | _ => none
  | .panic => match args with
    | [.ifc t v] => some (.panic (.ifc t v), h)
    | _ => none
  | .unsafeSliceData => match args with
    | [x] => opSliceData h x
    | _ => none
  | .unsafeString => match args, ts.toList with
    | [x, n], [pt, _] => opUnsafeStr P h pt x n
    | _, _ => none
  | .cap => match args, ts.toList with
    | [.nsl], t :: _ => match elemOf P t with
      | some _ => some (.val (.int .i64 0), h)
      | none => none
    | _, _ => none
  | _ => none

/-! ### the operations -/
def opBox (h : AHeap) (e : TypeId) : Option AV → OutT
  | some z => outNew h e z.cells
  | none => none
def partsA (ρ : RhoT) : List (Nat × Operand) → Option (List (Nat × AV))
  | [] => some []
  | (i, x) :: l => match ρ x, partsA ρ l with
    | some v, some r => some ((i, v) :: r)
    | _, _ => none
def argsA (ρ : RhoT) : List Operand → Option (List AV)
  | [] => some []
  | x :: l => match ρ x, argsA ρ l with
    | some v, some r => some (v :: r)
    | _, _ => none
def structPlace (P : Program) (fs : Array Field) (i : Nat) : Option (Nat × Nat) := match fs[i]? with
  | some f => some (f.offset, P.cellsOf f.type)
  | none => none
def fieldsOk (P : Program) (fs : Array Field) : Bool := fs.all fun f => (P.info? f.type).isSome
def outAgg (h : AHeap) : Option (List AV) → OutT
  | some l => some (.val (.agg l), h)
  | none => none
def opBuild (P : Program) (ρ : RhoT) (h : AHeap) (t : TypeId) (parts : Array (Nat × Operand)) : OutT :=
  match zeroA P t, partsA ρ parts.toList with
  | some z, some ps => match P.underlying t with
    | some (.struct fs) => if fieldsOk P fs then outAgg h (fillA (structPlace P fs) z.cells ps) else none
    | some (.array _ e) => if (P.info? e).isSome then outAgg h (fillA (fun i => some (i * P.cellsOf e, P.cellsOf e)) z.cells ps) else none
    | _ => none
  | _, _ => none
def noParts : List (Nat × Operand) → Bool
  | [] => true
  | _ => false
def opBuildSlice (P : Program) (ρ : RhoT) (h : AHeap) (t : TypeId) (len : Nat) (parts : Array (Nat × Operand)) : OutT :=
  match elemOf P t, partsA ρ parts.toList with
  | some e, some ps => match zeroA P e with
    | some z => match len with
      | 0 => if noParts parts.toList = true then outNewS h e [] 0 (P.cellsOf e) else none
      | len + 1 => if (len + 1) * P.cellsOf e ≤ 1000000 ∧ 0 < P.cellsOf e then
          match fillA (fun i => some (i * P.cellsOf e, P.cellsOf e)) (List.replicate (len + 1) z.cells).flatten ps with
          | some cs => outNewS h e cs (len + 1) (P.cellsOf e)
          | none => none
        else none
    | none => none
  | _, _ => none
def opLoad (P : Program) (h : AHeap) (t : TypeId) : Option AV → OutT
  | some (.ptr b o) => match aggO P t with
    | some true => match rowGet h b o (P.cellsOf t) with
      | some l => some (.val (.agg l), h)
      | none => none
    | some false => outV h (cellGet h b o)
    | none => none
  | some (.gptr b o) => match h.get b with
    | some (.glob _) => match aggO P t with
      | some true => match rowGet h b o (P.cellsOf t) with
        | some l => some (.val (.agg l), h)
        | none => none
      | some false => outV h (cellGet h b o)
      | none => none
    | _ => none
  | _ => none
def opStore (P : Program) (h : AHeap) (t : TypeId) : Option AV → Option AV → OutT
  | some (.ptr b o), some x => if x.cells.length = P.cellsOf t ∧ (P.info? t).isSome then match rowPut h b o x.cells with
      | some h => some (.skip, h)
      | none => none
    else none
  | _, _ => none
def opNil (h : AHeap) : Option AV → OutT
  | some (.ptr b o) => some (.val (.ptr b o), h)
  | some (.gptr b o) => some (.val (.gptr b o), h)
  | some (.fn f a b) => some (.val (.fn f a b), h)
  | some (.ifc t v) => some (.val (.ifc t v), h)
  | _ => none
def isConstB : Operand → Bool
  | .const _ => true
  | _ => false
def opBin (P : Program) (h : AHeap) (op : BinOp) (t : TypeId) (lit : Bool) : Option AV → Option AV → OutT
  | some x, some y => outV h (binA P op t x y lit)
  | _, _ => none
/-- two places in rows of their own -/
def liveAt (h : AHeap) (b o : Nat) : Bool := match h.get b with
  | some (.row n _ e) => Nat.blt o n && memB e h.ex
  | _ => false
def ptrBig (P : Program) (t : TypeId) : Bool := match P.underlying t with
  | some (.pointer e) => match P.info? e with
    | some i => !(Nat.beq i.size 0)
    | none => false
  | _ => false
def apartPtr (P : Program) (h : AHeap) (t : TypeId) : AV → AV → Bool
  | .ptr b o, .ptr b' o' => !Nat.beq b b' && (liveAt h b o && (liveAt h b' o' && ptrBig P t))
  | _, _ => false
def opBinV (P : Program) (h : AHeap) (op : BinOp) (t : TypeId) (lit : Bool) : Option AV → Option AV → OutT
  | some x, some y => match !lit && apartPtr P h t x y with
    | true => match op with
      | .eql => some (.val (.bool false), h)
      | .neq => some (.val (.bool true), h)
      | _ => none
    | false => opBin P h op t lit (some x) (some y)
  | _, _ => none
def opUn (h : AHeap) (op : UnOp) : Option AV → OutT
  | some (.int k n) => match op with
    | .neg => some (.val (.int k (k.wrap (0 - n))), h)
    | .xor => some (.val (.int k (k.wrap (BitVec.ofInt k.bits (if k.signed then -1 else k.max) ^^^ BitVec.ofInt k.bits n).toNat)), h)
    | _ => none
  | some (.bool b) => match op with
    | .not => some (.val (.bool (!b)), h)
    | _ => none
  | _ => none
def convStr (P : Program) (h : AHeap) (d : TypeId) (n v : Nat) : OutT := match P.underlying d with
  | some .string => some (.val (.str n v), h)
  | some (.slice e) => match P.underlying e with
    | some (.int .u8) => if P.cellsOf e = 1 then outNewS h e (strCells n v) n 1 else none
    | _ => none
  | _ => none
def convBytes (P : Program) (h : AHeap) (s d : TypeId) (x : Option (List AV)) : OutT := match P.underlying d, P.underlying s with
  | some .string, some (.slice e) => match P.underlying e, x with
    | some (.int .u8), some cs => match bytesA cs with
      | some (n, v) => some (.val (.str n v), h)
      | none => none
    | _, _ => none
  | _, _ => none
def convPtr (P : Program) (h : AHeap) (s d : TypeId) (b o : Nat) : OutT := match P.underlying s with
  | some (.pointer t) => match P.underlying d, P.info? t, h.get b with
    | some .unsafePointer, some i, some (.row n _ _) => if Nat.blt o n = true ∧ Nat.beq i.size 0 = false then some (.val (.ptr b o), h) else none
    | _, _, _ => none
  | some .unsafePointer => match P.underlying d, h.get b with
    | some (.pointer u), some (.row n _ e) => if memB e h.ex = true ∧ liesAt P P.depth e (n / P.cellsOf e) o u 1 = true ∧ (P.info? u).isSome then some (.val (.ptr b o), h) else none
    | _, _ => none
  | _ => none
def opConv (P : Program) (h : AHeap) (s d : TypeId) : Option AV → OutT
  | some (.ptr b o) => convPtr P h s d b o
  | some (.int _ n) => match P.underlying s, P.underlying d with
    | some _, some (.int k) => some (.val (.int k (k.wrap n)), h)
    | _, _ => none
  | some (.str n v) => match P.underlying s with
    | some .string => convStr P h d n v
    | _ => none
  | some (.sl b o n sz) => if sz = 1 then convBytes P h s d (rowGet h b o n) else none
  | some .nsl => convBytes P h s d (some [])
  | some .esl => convBytes P h s d (some [])
  | _ => none
def isConcrete (P : Program) (t : TypeId) : Bool := match P.underlying t with
  | some (.interface _) | none => false
  | some _ => true
def opIface (P : Program) (h : AHeap) (t : TypeId) : Option AV → OutT
  | some x => if isConcrete P t then some (.val (.ifc t x), h) else none
  | none => none
def opMakeFunc (ρ : RhoT) (h : AHeap) (fn : Fn) (first captured : Array Operand) : OutT :=
  match fn with
  | .func f => match argsA ρ first.toList, argsA ρ captured.toList with
    | some a, some b => some (.val (.fn f a b), h)
    | _, _ => none
  | _ => none
def opMakeSlice (P : Program) (h : AHeap) (t : TypeId) : Option AV → Option AV → OutT
  | some (.int _ (.ofNat n)), some (.int _ (.ofNat m)) => match elemOf P t with
    | some e => match zeroA P e with
      | some z => if Nat.ble n m = true ∧ bytesFit P e m = true then outNewS h e (List.replicate m z.cells).flatten n (P.cellsOf e) else none
      | none => none
    | none => none
  | _, _ => none
def optA (ρ : RhoT) : Option Operand → Option (Option AV)
  | none => some none
  | some o => match ρ o with
    | some v => some (some v)
    | none => none
def boundA (x : Option AV) (dflt : Nat) : Option Nat := match x with
  | none => some dflt
  | some (.int _ (.ofNat n)) => some n
  | _ => none
def sliceStr (P : Program) (h : AHeap) (t : TypeId) (n v : Nat) : Option Nat → Option Nat → OutT
  | some l, some r => match P.underlying t with
    | some .string => if Nat.ble l r = true ∧ Nat.ble r n = true then some (.val (.str (r - l) (v / 256 ^ l % 256 ^ (r - l))), h) else none
    | _ => none
  | _, _ => none
def sliceRow (P : Program) (h : AHeap) (t : TypeId) (b o m sz : Nat) : Option Nat → Option Nat → OutT
  | some l, some r => match elemOf P t with
    | some e => if Nat.ble l r = true ∧ Nat.ble r m = true ∧ sz = P.cellsOf e ∧ (P.info? e).isSome then
        some (.val (if Nat.beq l m = true ∧ Nat.blt 0 l = true then .esl else .sl b (o + l * sz) (r - l) sz), h) else none
    | _ => none
  | _, _ => none
def sliceNil (P : Program) (h : AHeap) (t : TypeId) (x : AV) : Option Nat → Option Nat → OutT
  | some 0, some 0 => match elemOf P t with
    | some e => if (P.info? e).isSome then some (.val x, h) else none
    | none => none
  | _, _ => none
/-- a part of an array that lies in a row -/
def sliceArr (h : AHeap) (b o n sz : Nat) : Option Nat → Option Nat → OutT
  | some l, some r => match h.get b with
    | some (.row N _ _) => if Nat.ble l r = true ∧ Nat.ble r n = true ∧ Nat.ble (o + n * sz) N = true then
        some (.val (if Nat.beq l n = true ∧ Nat.blt 0 l = true then .esl else .sl b (o + l * sz) (r - l) sz), h) else none
    | _ => none
  | _, _ => none
def sliceA (P : Program) (h : AHeap) (t : TypeId) (x : AV) (lo hi : Option AV) : OutT :=
  match x with
  | .ptr b o => match P.underlying t with
    | some (.array n e) => if (P.info? e).isSome then sliceArr h b o n (P.cellsOf e) (boundA lo 0) (boundA hi n) else none
    | _ => none
  | .str n v => sliceStr P h t n v (boundA lo 0) (boundA hi n)
  | .sl b o m sz => sliceRow P h t b o m sz (boundA lo 0) (boundA hi m)
  | .nsl => sliceNil P h t .nsl (boundA lo 0) (boundA hi 0)
  | .esl => sliceNil P h t .esl (boundA lo 0) (boundA hi 0)
  | _ => none
/-- with a third bound: of a row -/
def slice3Row (P : Program) (h : AHeap) (t : TypeId) (b o m sz : Nat) : Option Nat → Option Nat → Option Nat → OutT
  | some l, some r, some k => match elemOf P t with
    | some e => if Nat.ble l r = true ∧ Nat.ble r k = true ∧ Nat.ble k m = true ∧ sz = P.cellsOf e ∧ (P.info? e).isSome then
        some (.val (if Nat.beq l k = true ∧ Nat.blt 0 l = true then .esl else .sl b (o + l * sz) (r - l) sz), h) else none
    | _ => none
  | _, _, _ => none
def slice3A (P : Program) (h : AHeap) (t : TypeId) (x : AV) (lo hi mx : Option AV) : OutT := match hi with
  | none => none
  | some _ => match mx with
    | none => none
    | some _ => match x with
      | .sl b o m sz => slice3Row P h t b o m sz (boundA lo 0) (boundA hi m) (boundA mx m)
      | _ => none
def opSlice (P : Program) (ρ : RhoT) (h : AHeap) (t : TypeId) (x : Operand) (lo hi mx : Option Operand) : OutT :=
  match mx with
  | some q => match ρ x, optA ρ lo, optA ρ hi, optA ρ (some q) with
    | some x, some lo, some hi, some mx => slice3A P h t x lo hi mx
    | _, _, _, _ => none
  | none => match ρ x, optA ρ lo, optA ρ hi with
    | some x, some lo, some hi => sliceA P h t x lo hi
    | _, _, _ => none
def opFieldAddr (P : Program) (h : AHeap) (s : TypeId) (f : Nat) : Option AV → OutT
  | some (.ptr b o) => match P.underlying s with
    | some (.struct fs) => match fs[f]? with
      | some f => if Nat.blt 0 (P.cellsOf f.type) = true then some (.val (.ptr b (o + f.offset)), h) else none
      | none => none
    | _ => none
  | some (.gptr b o) => match P.underlying s with
    | some (.struct fs) => match fs[f]? with
      | some f => if Nat.blt 0 (P.cellsOf f.type) = true then some (.val (.gptr b (o + f.offset)), h) else none
      | none => none
    | _ => none
  | _ => none
def opField (P : Program) (h : AHeap) (t : TypeId) (f : Nat) : Option AV → OutT
  | some (.agg cs) => match P.underlying t with
    | some (.struct fs) => match fs[f]? with
      | some f => outV h (partA P f.type cs f.offset)
      | none => none
    | _ => none
  | _ => none
def opIndexAddr (P : Program) (h : AHeap) (t : TypeId) : Option AV → Option AV → OutT
  | some (.ptr b o), some (.int _ (.ofNat i)) => match P.underlying t with
    | some (.array n e) => if Nat.blt i n = true ∧ (P.info? e).isSome then some (.val (.ptr b (o + i * P.cellsOf e)), h) else none
    | _ => none
  | some (.gptr b o), some (.int _ (.ofNat i)) => match P.underlying t with
    | some (.array n e) => if Nat.blt i n = true ∧ (P.info? e).isSome then some (.val (.gptr b (o + i * P.cellsOf e)), h) else none
    | _ => none
  | some (.sl b o n _), some (.int _ (.ofNat i)) => match elemOf P t with
    | some e => if Nat.blt i n = true ∧ (P.info? e).isSome then some (.val (.ptr b (o + i * P.cellsOf e)), h) else none
    | _ => none
  | _, _ => none
def opIndex (P : Program) (h : AHeap) (t : TypeId) : Option AV → Option AV → OutT
  | some (.agg cs), some (.int _ (.ofNat i)) => match P.underlying t with
    | some (.array n e) => if Nat.blt i n = true then outV h (partA P e cs (i * P.cellsOf e)) else none
    | _ => none
  | some (.str n v), some (.int _ (.ofNat i)) => match P.underlying t with
    | some .string => if Nat.blt i n = true then some (.val (.int .u8 ((v / 256 ^ i % 256 : Nat) : Int)), h) else none
    | _ => none
  | _, _ => none
def concAssert (h : AHeap) (t u : TypeId) (x : AV) (ok : Bool) : OutT :=
  if t = u then some (.val (if ok then .tup [x, .bool true] else x), h) else none
def opAssert (P : Program) (h : AHeap) (t : TypeId) (ok : Bool) : Option AV → OutT
  | some (.ifc u x) => if isConcrete P t then concAssert h t u x ok else none
  | _ => none
def opExtract (h : AHeap) (i : Nat) : Option AV → OutT
  | some (.tup l) => outV h l[i]?
  | _ => none
/-- a function that has a body -/
def hasBody (P : Program) (f : FuncId) : Bool := match P.funcs[f]? with
  | some fn => fn.body.isSome && !(fn.name == "runtime.NumGoroutine")
  | none => false
def findByte (c : Nat) : Nat → Nat → Nat → Option Nat
  | 0, _, _ => none
  | n + 1, v, i => match Nat.beq (v % 256) c with
    | true => some i
    | false => findByte c n (v / 256) (i + 1)
/-- functions without a body, by the table's row -/
def isRow (rows : List (String × (Array Value → Sem Value))) (i : Nat) (name : String) : Bool := match rows[i]? with
  | some (n, _) => n == name
  | none => false
def externV (h : AHeap) (fn : Func) : List AV → OutT
  | [x] => if isRow Extern.AbiNoEscape.rows 0 fn.name = true then some (.val x, h) else none
  | [.str n v, .int .u8 (.ofNat c)] => if isRow Extern.BytealgIndexByte.rows 1 fn.name = true ∧ Nat.blt c 256 = true then match findByte c n v 0 with
      | some i => some (.val (.int .i64 (i : Int)), h)
      | none => some (.val (.int .i64 (-1)), h)
    else none
  | _ => none
/-- bytes that nobody knows: a row without a cell, of which a slice of n is told -/
def isMakeNoZero (name : String) : Bool := match Extern.BytealgMakeNoZero.typedRows with
  | (n, _) :: _ => n == name
  | [] => false
def makeZ (P : Program) (h : AHeap) (fn : Func) : List AV → OutT
  | [.int .i64 (.ofNat n)] => match fn.resultTypes[0]? with
    | some t => match elemOf P t with
      | some e => if Nat.ble n 1000000000 = true ∧ memB e h.ex = false then some (.val (.sl h.next 0 n 1), h.new (rowOf [] e)) else none
      | none => none
    | none => none
  | _ => none
def isMapsClone (name : String) : Bool := isRow Extern.MapsClone.rows 0 name
/-- another map with the same entries -/
def cloneM (h : AHeap) : List AV → OutT
  | [.ifc t (.mp b)] => match h.get b with
    | some (.map es) => some (.val (.ifc t (.mp h.next)), h.new (.map es))
    | _ => none
  | _ => none
def externM (P : Program) (h : AHeap) (f : FuncId) (args : List AV) : OutT := match P.funcs[f]? with
  | some fn => if fn.body.isNone = true ∧ (fn.name == "runtime.NumGoroutine") = false ∧ (Extern.findNext fn).isNone = true then (if isMakeNoZero fn.name = true then makeZ P h fn args else if isMapsClone fn.name = true then cloneM h args else none) else none
  | none => none
def isMakeF (P : Program) (f : FuncId) : Bool := match P.funcs[f]? with
  | some fn => isMakeNoZero fn.name || isMapsClone fn.name
  | none => false
def externA (P : Program) (h : AHeap) (f : FuncId) (args : List AV) : OutT := match P.funcs[f]? with
  | some fn => if fn.body.isNone = true ∧ (fn.name == "runtime.NumGoroutine") = false ∧ (Extern.findNext fn).isNone = true then externV h fn args else none
  | none => none
/-- a round is asked for -/
def yieldV (h : AHeap) (args : List AV) (b : Nat) : OutT := match h.get b with
  | some (.obj (.loop r)) => if Nat.beq args.length r.ps.size = true then some (.round b args, h) else none
  | _ => none
def callV (P : Program) (h : AHeap) (args : List AV) : Option AV → OutT
  | some (.fn f a b) => if hasBody P f then some (.call f (a ++ args ++ b), h) else if isMakeF P f then externM P h f (a ++ args ++ b) else externA P h f (a ++ args ++ b)
  | some (.yld b) => yieldV h args b
  | _ => none
def opCall (P : Program) (ρ : RhoT) (h : AHeap) (c : Call) : OutT := match argsA ρ c.args.toList with
  | some args => match c.callee with
    | .builtin b => builtinA P b c.argTypes args h
    | .invoke _ _ => none
    | .value f => callV P h args (ρ f)
  | none => none
def deferV (P : Program) (h : AHeap) (args : List AV) : Option AV → OutT
  | some (.fn f a b) => if hasBody P f then some (.defer f (a ++ args) b, h) else none
  | _ => none
def opDefer (P : Program) (ρ : RhoT) (h : AHeap) (c : Call) : OutT := match argsA ρ c.args.toList with
  | some args => match c.callee with
    | .value f => deferV P h args (ρ f)
    | _ => none
  | none => none
def opPanic (h : AHeap) : Option AV → OutT
  | some (.ifc t v) => some (.panic (.ifc t v), h)
  | _ => none

def opPick (h : AHeap) (c a b : Option AV) : OutT := match c with
  | some (.bool true) => outV h a
  | some (.bool false) => outV h b
  | _ => none

/-- the operations, one by one (each a constant, so that picking one copies nothing) -/
abbrev OpT := Program → RhoT → AHeap → OutT
def do_move : Operand → OpT := fun x _ ρ h => outV h (ρ x)
def do_assign : Operand → OpT := fun x _ ρ h => outV h (ρ x)
def do_pick : Operand → Operand → Operand → OpT := fun c a b _ ρ h => opPick h (ρ c) (ρ a) (ρ b)
def do_alloc : TypeId → OpT := fun e P _ h => opBox h e (zeroA P e)
def do_box : TypeId → Operand → OpT := fun e x _ ρ h => opBox h e (ρ x)
def do_build : TypeId → Array (Nat × Operand) → OpT := fun t parts P ρ h => opBuild P ρ h t parts
def do_buildSlice : TypeId → Nat → Array (Nat × Operand) → OpT := fun t len parts P ρ h => opBuildSlice P ρ h t len parts
def do_insert : TypeId → Operand → Operand → Operand → OpT := fun t m k x P ρ h => opMapUpdate P h t (ρ m) (ρ k) (ρ x)
def do_load : TypeId → Operand → OpT := fun t a P ρ h => opLoad P h t (ρ a)
def do_store : TypeId → Operand → Operand → OpT := fun t a x P ρ h => opStore P h t (ρ a) (ρ x)
def no_ready : Nat → OpT := fun _ _ _ _ => none
def no_waits : Nat → OpT := fun _ _ _ _ => none
def do_nilCheck : Operand → OpT := fun x _ ρ h => opNil h (ρ x)
def do_binOp : BinOp → TypeId → Operand → Operand → TypeId → OpT := fun op t x y _ P ρ h => opBinV P h op t (isConstB x || isConstB y) (ρ x) (ρ y)
def do_unOp : UnOp → TypeId → Operand → OpT := fun op _ x _ ρ h => opUn h op (ρ x)
def do_convert : TypeId → TypeId → Operand → OpT := fun s d x P ρ h => opConv P h s d (ρ x)
def no_sliceToArrayPointer : TypeId → Operand → OpT := fun _ _ _ _ _ => none
def do_makeInterface : TypeId → Operand → OpT := fun t x P ρ h => opIface P h t (ρ x)
def do_makeFunc : Fn → Array Operand → Array Operand → OpT := fun fn first captured _ ρ h => opMakeFunc ρ h fn first captured
def do_makeMap : TypeId → Option Operand → OpT := fun _ r _ _ h => opMakeMap h r
def no_makeChan : TypeId → Operand → OpT := fun _ _ _ _ _ => none
def do_makeSlice : TypeId → Operand → Operand → OpT := fun t l c P ρ h => opMakeSlice P h t (ρ l) (ρ c)
def do_slice : TypeId → Operand → Option Operand → Option Operand → Option Operand → OpT := fun t x lo hi mx P ρ h => opSlice P ρ h t x lo hi mx
def do_fieldAddr : TypeId → Operand → Nat → OpT := fun s x f P ρ h => opFieldAddr P h s f (ρ x)
def do_field : TypeId → Operand → Nat → OpT := fun t x f P ρ h => opField P h t f (ρ x)
def do_indexAddr : TypeId → Operand → Operand → OpT := fun t x i P ρ h => opIndexAddr P h t (ρ x) (ρ i)
def do_index : TypeId → Operand → Operand → OpT := fun t x i P ρ h => opIndex P h t (ρ x) (ρ i)
def do_lookup : TypeId → Operand → Operand → Bool → OpT := fun t x i ok P ρ h => opLookup P h t ok (ρ x) (ρ i)
def do_mapUpdate : TypeId → Operand → Operand → Operand → OpT := fun t m k x P ρ h => opMapUpdate P h t (ρ m) (ρ k) (ρ x)
def no_mapEntry : TypeId → Operand → Operand → OpT := fun _ _ _ _ _ _ => none
def no_entryStore : TypeId → Operand → Operand → Operand → OpT := fun _ _ _ _ _ _ _ => none
def no_range : TypeId → Operand → OpT := fun _ _ _ _ _ => none
def no_next : Operand → Bool → OpT := fun _ _ _ _ _ => none
def no_entry : Operand → OpT := fun _ _ _ _ => none
def do_typeAssert : Operand → TypeId → TypeId → Bool → OpT := fun x _ t ok P ρ h => opAssert P h t ok (ρ x)
def do_extract : Operand → Nat → OpT := fun t i _ ρ h => opExtract h i (ρ t)
def do_call : Call → OpT := fun c P ρ h => opCall P ρ h c
def no_go : Call → OpT := fun _ _ _ _ => none
def do_defer : Call → OpT := fun c P ρ h => opDefer P ρ h c
def do_panic : Operand → OpT := fun x _ ρ h => opPanic h (ρ x)
def no_send : Operand → Operand → OpT := fun _ _ _ _ _ => none
def no_recv : TypeId → Operand → Bool → OpT := fun _ _ _ _ _ _ => none
def no_select : Array SelectCase → Bool → OpT := fun _ _ _ _ _ => none
def opTable (o : Op) : OpT := Op.casesOn o do_move do_assign do_pick do_alloc do_box do_build do_buildSlice do_insert do_load do_store no_ready no_waits do_nilCheck do_binOp do_unOp do_convert no_sliceToArrayPointer do_makeInterface do_makeFunc do_makeMap no_makeChan do_makeSlice do_slice do_fieldAddr do_field do_indexAddr do_index do_lookup do_mapUpdate no_mapEntry no_entryStore no_range no_next no_entry do_typeAssert do_extract do_call no_go do_defer do_panic no_send no_recv no_select
def opA (P : Program) (ρ : RhoT) (o : Oper) (h : AHeap) : OutT := opTable o.op P ρ h

/-! ### the frame -/
structure AAct where
  tmps : T AV
  defers : List (FuncId × List AV × List AV)

def AAct.eval (a : AAct) : Operand → Option AV
  | .tmp t => a.tmps.get t
  | .const v => ofVal v
  | .global g => some (.gptr g 0)
  | .func f => some (.fn f [] [])

def AAct.put (a : AAct) : Option Tmp → AV → AAct
  | some d, v => ⟨a.tmps.set d v, a.defers⟩
  | none, _ => a

inductive AExit where
  | normal
  | exit (id : Nat)
  | goto (l : Nat)
  | ret
  | panic (v : AV)

inductive ARes where
  | ret (v : AV)
  | panic (v : AV)

abbrev CallF := FuncId → List AV → AHeap → Option (ARes × AHeap)
abbrev CodeT := Option (AExit × AAct × AHeap)

/-- the slots that are written are there -/
def okDst (N : Nat) (o : Oper) : Bool := match o.dst with
  | some d => Nat.blt d N
  | none => true
def okOps (N : Nat) : List Oper → Bool
  | [] => true
  | o :: l => okDst N o && okOps N l
/-- is an operation wanted? -/
def wantedT (ops : Array Oper) (tm : Nat → Option AV) : Option (Nat × Bool) → Option Bool
  | none => some true
  | some (j, want) => match ops[j]? with
    | some o => match o.dst with
      | some d => match tm d with
        | some (.bool b) => some (b == want)
        | some _ => some false
        | none => none
      | none => some false
    | none => some false

/-- one operation: the frame and the heap behind it; or it panics -/
inductive AStep where
  | go (a : AAct) (h : AHeap)
  | panic (v : AV) (h : AHeap)

def stepPut (a : AAct) (d : Option Tmp) (v : AV) (h : AHeap) : Option AStep := some (.go (a.put d v) h)
def stepRes (a : AAct) (d : Option Tmp) : Option (ARes × AHeap) → Option AStep
  | some (.ret v, h) => stepPut a d v h
  | some (.panic v, h) => some (.panic v h)
  | none => none
def stepOut (call : CallF) (a : AAct) (d : Option Tmp) : OutT → Option AStep
  | some (.val v, h) => stepPut a d v h
  | some (.skip, h) => stepPut a d (.tup []) h
  | some (.call f args, h) => stepRes a d (call f args h)
  | some (.panic v, h) => some (.panic v h)
  | some (.defer f args cap, h) => stepPut ⟨a.tmps, (f, args, cap) :: a.defers⟩ d (.tup []) h
  | some (.round _ _, _) => none
  | none => none
def stepA (P : Program) (call : CallF) (ops : Array Oper) (o : Oper) (a : AAct) (h : AHeap) : Option AStep :=
  match wantedT ops a.tmps.get o.guard with
  | some true => stepOut call a o.dst (opA P a.eval o h)
  | some false => stepPut a o.dst (.tup []) h
  | none => none

def aNext (ih : AAct → AHeap → CodeT) (a : AAct) : Option AStep → CodeT
  | some (.go a h) => ih a h
  | some (.panic v h) => some (.panic v, a, h)
  | none => none
def aOpsI (P : Program) (call : CallF) (ops : Array Oper) : List Oper → AAct → AHeap → CodeT
  | [], a, h => some (.normal, a, h)
  | o :: rest, a, h => aNext (aOpsI P call ops rest) a (stepA P call ops o a h)
def aOps (P : Program) (call : CallF) (ops : Array Oper) (l : List Oper) : AAct → AHeap → CodeT :=
  @List.rec Oper (fun _ => AAct → AHeap → CodeT) (fun a h => some (.normal, a, h)) (fun o _ ih a h => aNext ih a (stepA P call ops o a h)) l

def aRound (ih : AAct → AHeap → CodeT) : CodeT → CodeT
  | some (.normal, a, h) => ih a h
  | r => r
def aLoopI (f : AAct → AHeap → CodeT) : Nat → AAct → AHeap → CodeT
  | 0, _, _ => none
  | n + 1, a, h => aRound (aLoopI f n) (f a h)
def aLoop (f : AAct → AHeap → CodeT) (n : Nat) : AAct → AHeap → CodeT :=
  @Nat.rec (fun _ => AAct → AHeap → CodeT) (fun _ _ => none) (fun _ ih a h => aRound ih (f a h)) n

def aThen (r : CodeT) (k : AAct → AHeap → CodeT) : CodeT := match r with
  | some (.normal, a, h) => k a h
  | r => r
def aBlock (id : Nat) (r : CodeT) : CodeT := match r with
  | some (.exit id', a, h) => if Nat.beq id' id = true then some (.normal, a, h) else some (.exit id', a, h)
  | r => r
def aCond (c : Option AV) (x y : CodeT) : CodeT := match c with
  | some (.bool true) => x
  | some (.bool false) => y
  | _ => none


/-! ### a region whose order is open -/
def isRead : Op → Bool
  | .load .. => true
  | .lookup .. => true
  | _ => false
/-- 0: it computes; 1: it reads; 2: it makes one row; 3: all else -/
def kindOf (P : Program) : Op → Nat
  | .move _ | .assign _ | .pick .. | .build .. | .nilCheck _ | .unOp .. | .makeInterface .. | .makeFunc .. | .fieldAddr .. | .field .. | .indexAddr .. | .index .. | .typeAssert .. | .extract .. => 0
  | .binOp _ t x y _ => match isConstB x || isConstB y with
    | true => 0
    | false => match P.underlying t with
      | some (.pointer _) => 3
      | _ => 0
  | .slice t _ _ _ _ => match P.underlying t with
    | some (.array _ _) => 3
    | _ => 0
  | .load .. => 1
  | .lookup .. => 1
  | .alloc _ | .box .. => 2
  | .convert s d _ => match P.underlying s with
    | some (.slice _) | some .unsafePointer => 3
    | _ => match P.underlying d with
      | some (.slice _) | some .unsafePointer => 3
      | _ => 0
  | .call c => match c.callee with
    | .builtin .len => match (c.argTypes[0]?).bind P.underlying with
      | some (.map _ _) | none => 3
      | _ => 0
    | .builtin .max | .builtin .min => 0
    | _ => 3
  | _ => 3

def edgesOf (o : Oper) : List Nat := (o.after.toList.filter (Region.binds .any)).map (·.on)
def edgesAt (ops : Array Oper) (i : Nat) : List Nat := match ops[i]? with
  | some o => edgesOf o
  | none => []
def dstAt (ops : Array Oper) (i : Nat) : Option Nat := match ops[i]? with
  | some o => o.dst
  | none => none
def tmpsOf : List Operand → List Nat
  | [] => []
  | .tmp t :: l => t :: tmpsOf l
  | _ :: l => tmpsOf l
def guardTmp (ops : Array Oper) : Option (Nat × Bool) → List Nat
  | none => []
  | some (j, _) => match dstAt ops j with
    | some d => [d]
    | none => []
def readsAt (ops : Array Oper) (i : Nat) : List Nat := match ops[i]? with
  | some o => guardTmp ops o.guard ++ tmpsOf o.op.operands.toList
  | none => []
def allB (f : Nat → Bool) : List Nat → Bool
  | [] => true
  | j :: l => f j && allB f l
def subB (l m : List Nat) : Bool := allB (fun i => memB i m) l
/-- no operation reads what another one writes, but behind it; no two write one slot -/
def okTmp (ops : Array Oper) (i j : Nat) : Bool := match dstAt ops j with
  | none => true
  | some t => (!memB t (readsAt ops i) || memB j (edgesAt ops i) || memB i (edgesAt ops j)) && (Nat.beq i j || !(dstAt ops i == some t))
def okTmps (ops : Array Oper) : Bool := allB (fun i => allB (okTmp ops i) (List.range ops.size)) (List.range ops.size)
/-- does it write what one that does not wait for it reads? -/
def antiAt (ops : Array Oper) (j : Nat) : Bool := match dstAt ops j with
  | none => false
  | some t => (List.range ops.size).any fun i => memB t (readsAt ops i) && !memB j (edgesAt ops i)
def kindX (P : Program) (ops : Array Oper) (i : Nat) (o : Op) : Nat := match antiAt ops i with
  | true => 3
  | false => kindOf P o
def kindAt (P : Program) (ops : Array Oper) (i : Nat) : Nat := match ops[i]? with
  | some o => kindX P ops i o.op
  | none => 3
def onlyB (ops : Array Oper) (done : List Nat) (i j : Nat) : Bool := memB j done || !subB (edgesAt ops j) done || Nat.beq j i
def okPlan (P : Program) (ops : Array Oper) : List Nat → List Nat → Bool
  | done, [] => allB (fun i => memB i done) (List.range ops.size)
  | done, i :: l => Nat.blt i ops.size && !memB i done && subB (edgesAt ops i) done && (Nat.blt (kindAt P ops i) 3 || allB (onlyB ops done i) (List.range ops.size)) && okPlan P ops (i :: done) l
def findB (f : Nat → Bool) : List Nat → Option Nat
  | [] => none
  | i :: l => match f i with
    | true => some i
    | false => findB f l
/-- the next one: one that computes, if there is one -/
def nextOf (P : Program) (ops : Array Oper) (done : List Nat) : Option Nat :=
  match findB (fun i => !memB i done && subB (edgesAt ops i) done && Nat.blt (kindAt P ops i) 3) (List.range ops.size) with
  | some i => some i
  | none => findB (fun i => !memB i done && subB (edgesAt ops i) done) (List.range ops.size)
def mkPlan (P : Program) (ops : Array Oper) : Nat → List Nat → List Nat
  | 0, _ => []
  | n + 1, done => match nextOf P ops done with
    | some i => i :: mkPlan P ops n (i :: done)
    | none => []
def planOf (P : Program) (ops : Array Oper) : Option (List Nat) :=
  if okTmps ops && okPlan P ops [] (mkPlan P ops ops.size []) then some (mkPlan P ops ops.size []) else none
/-- what must have come up ahead of one -/
def ancs (ops : Array Oper) : Nat → List Nat → List Nat
  | 0, _ => []
  | n + 1, l => l ++ ancs ops n (l.flatMap (edgesAt ops))
def ancOf (ops : Array Oper) : Nat → Nat → Nat → Bool
  | 0, _, _ => false
  | n + 1, i, j => memB j (edgesAt ops i) || (edgesAt ops i).any fun k => ancOf ops n k j

mutual
def AV.same : AV → AV → Bool
  | .bool a, .bool b => a == b
  | .int k a, .int l b => (k == l) && (a == b)
  | .str a b, .str c d => Nat.beq a c && Nat.beq b d
  | .ptr a b, .ptr c d => Nat.beq a c && Nat.beq b d
  | .nilp, .nilp => true
  | .sl a b c d, .sl e f g h => Nat.beq a e && Nat.beq b f && Nat.beq c g && Nat.beq d h
  | .nsl, .nsl => true
  | .esl, .esl => true
  | .mp a, .mp b => Nat.beq a b
  | .nmp, .nmp => true
  | .fn f a b, .fn g c d => Nat.beq f g && AV.sameL a c && AV.sameL b d
  | .nfn, .nfn => true
  | .ifc t v, .ifc u w => Nat.beq t u && AV.same v w
  | .nifc, .nifc => true
  | .agg a, .agg b => AV.sameL a b
  | .tup a, .tup b => AV.sameL a b
  | .yld a, .yld b => Nat.beq a b
  | .mrk a, .mrk b => Nat.beq a b
  | .gptr a b, .gptr c d => Nat.beq a c && Nat.beq b d
  | _, _ => false
def AV.sameL : List AV → List AV → Bool
  | [], [] => true
  | a :: l, b :: m => AV.same a b && AV.sameL l m
  | _, _ => false
end

/-- what has been read or made in a region -/
structure Rec where
  i : Nat
  o : Oper
  id : Nat
  e : TypeId
  cells : List AV

def sameO : Option AV → Option AV → Bool
  | some a, some b => AV.same a b
  | _, _ => false
def sameLO : Option (List AV) → List AV → Bool
  | some a, b => AV.sameL a b
  | _, _ => false
def valOf : OutT → Option AV
  | some (.val v, _) => some v
  | _ => none
def tmpO (a : AAct) : Option Tmp → Option AV
  | some d => a.tmps.get d
  | none => none
def recOk (P : Program) (ops : Array Oper) (e : Nat) (a : AAct) (h : AHeap) (r : Rec) : Bool :=
  ancOf ops ops.size e r.i || match isRead r.o.op with
    | true => sameO (valOf (opA P a.eval r.o h)) (tmpO a r.o.dst)
    | false => match h.get r.id with
      | some (.row n t e) => Nat.beq n r.cells.length && Nat.beq e r.e && sameLO (t.take 0 n) r.cells
      | _ => false
def allRec (f : Rec → Bool) : List Rec → Bool
  | [] => true
  | j :: l => f j && allRec f l
def boxType : Op → TypeId
  | .alloc e => e
  | .box e _ => e
  | _ => 0
def boxCells (P : Program) (a : AAct) : Op → List AV
  | .alloc e => match zeroA P e with
    | some z => z.cells
    | none => []
  | .box _ x => match a.eval x with
    | some z => z.cells
    | none => []
  | _ => []

/-- in the order of a plan -/
def dGo (P : Program) (call : CallF) (ops : Array Oper) : List Nat → AAct → AHeap → List Rec → CodeT
  | [], a, h, _ => some (.normal, a, h)
  | i :: l, a, h, rs => match ops[i]? with
    | none => none
    | some o => match stepA P call ops o a h with
      | some (.go a' h') => match kindX P ops i o.op with
        | 0 => dGo P call ops l a' h' rs
        | 3 => if allRec (recOk P ops i a' h') rs = true then dGo P call ops l a' h' rs else none
        | _ => match wantedT ops a.tmps.get o.guard with
          | some true => dGo P call ops l a' h' (⟨i, o, h.next, boxType o.op, boxCells P a o.op⟩ :: rs)
          | _ => dGo P call ops l a' h' rs
      | _ => none
def aDraw (P : Program) (call : CallF) (ops : Array Oper) (a : AAct) (h : AHeap) : CodeT := match planOf P ops with
  | some p => dGo P call ops p a h []
  | none => none

def aRegion (P : Program) (call : CallF) (N : Nat) (ops : Array Oper) (a : AAct) (h : AHeap) (d : Bool) : CodeT := match okOps N ops.toList with
  | true => match d with
    | true => aDraw P call ops a h
    | false => aOps P call ops ops.toList a h
  | false => none

/-- a scope: behind a goto it goes on at the label (K: with one goto less) -/
abbrev ScopeK := Code → Code → AAct → AHeap → CodeT
def aScope (K : ScopeK) (c : Code) : CodeT → CodeT
  | some (.goto l, a, h) => match findLabel c l with
    | some rest => K rest c a h
    | none => some (.goto l, a, h)
  | r => r
def aCodeI (P : Program) (call : CallF) (lf N : Nat) (K : ScopeK) : Code → AAct → AHeap → CodeT
  | .skip, a, h => some (.normal, a, h)
  | .region _ ops d, a, h => aRegion P call N ops a h d
  | .seq x y, a, h => aThen (aCodeI P call lf N K x a h) (aCodeI P call lf N K y)
  | .cond c x y, a, h => aCond (a.eval c) (aCodeI P call lf N K x a h) (aCodeI P call lf N K y a h)
  | .block id c, a, h => aBlock id (aCodeI P call lf N K c a h)
  | .loop c, a, h => aLoop (aCodeI P call lf N K c) lf a h
  | .exit id, a, h => some (.exit id, a, h)
  | .scope c, a, h => aScope K c (aCodeI P call lf N K c a h)
  | .label _, a, h => some (.normal, a, h)
  | .goto l, a, h => some (.goto l, a, h)
  | .ret, a, h => some (.ret, a, h)
  | _, _, _ => none
def aCodeS (P : Program) (call : CallF) (lf N : Nat) (K : ScopeK) (c : Code) : AAct → AHeap → CodeT :=
  @Code.rec (fun _ => AAct → AHeap → CodeT)
    (fun a h => some (.normal, a, h))
    (fun _ ops d a h => aRegion P call N ops a h d)
    (fun _ _ ix iy a h => aThen (ix a h) iy)
    (fun c _ _ ix iy a h => aCond (a.eval c) (ix a h) (iy a h))
    (fun id _ ic a h => aBlock id (ic a h))
    (fun _ ic a h => aLoop ic lf a h)
    (fun _ _ _ _ _ _ _ _ => none)
    (fun id a h => some (.exit id, a, h))
    (fun c ic a h => aScope K c (ic a h))
    (fun _ a h => some (.normal, a, h))
    (fun l a h => some (.goto l, a, h))
    (fun a h => some (.ret, a, h))
    (fun _ _ _ => none) c
def aAgain (P : Program) (call : CallF) (lf N : Nat) : Nat → ScopeK
  | 0 => fun _ _ _ _ => none
  | n + 1 => fun rest c a h => aScope (aAgain P call lf N n) c (aCodeS P call lf N (aAgain P call lf N n) rest a h)
def aCode (P : Program) (call : CallF) (lf N : Nat) (c : Code) : AAct → AHeap → CodeT := aCodeS P call lf N (aAgain P call lf N 40) c

/-! ### calls -/
def resA (P : Program) (a : AAct) (h : AHeap) : ResultVar → Option AV
  | .tmp t => a.tmps.get t
  | .cell t ty => match opLoad P h ty (a.tmps.get t) with
    | some (.val v, _) => some v
    | _ => none
def resAll (P : Program) (a : AAct) (h : AHeap) : List ResultVar → Option (List AV)
  | [] => some []
  | r :: l => match resA P a h r, resAll P a h l with
    | some v, some vs => some (v :: vs)
    | _, _ => none
def retA (h : AHeap) : Option (List AV) → Option (ARes × AHeap)
  | some [v] => some (.ret v, h)
  | some l => some (.ret (.tup l), h)
  | none => none
/-- a deferred function: its first region may recover; what it recovers is behind it no more -/
def isRecover : Op → Bool
  | .call c => match c.callee with
    | .builtin .recover => c.args.isEmpty
    | _ => false
  | _ => false
def noCall : CallF := fun _ _ _ => none
def dOps (P : Program) (ops : Array Oper) : List Oper → AAct → Option AV → AHeap → Option (AAct × Option AV × AHeap)
  | [], a, u, h => some (a, u, h)
  | o :: rest, a, u, h => match o.guard with
    | some _ => none
    | none => match isRecover o.op with
      | true => match stepPut a o.dst (u.getD .nifc) h with
        | some (.go a h) => dOps P ops rest a none h
        | _ => none
      | false => match stepA P noCall ops o a h with
        | some (.go a h) => dOps P ops rest a u h
        | _ => none
def dLeave (P : Program) (fn : Func) (u : Option AV) : CodeT → Option (Option AV × AHeap)
  | some (.normal, a, h) => match a.defers, resAll P a h fn.results.toList with
    | [], some _ => some (u, h)
    | _, _ => none
  | some (.ret, a, h) => match a.defers, resAll P a h fn.results.toList with
    | [], some _ => some (u, h)
    | _, _ => none
  | _ => none
def dBody (P : Program) (call : CallF) (lf : Nat) (fn : Func) (a : AAct) (u : Option AV) (h : AHeap) : Code → Option (Option AV × AHeap)
  | .seq (.region _ ops false) rest => match okOps fn.ntmps ops.toList, dOps P ops ops.toList a u h with
    | true, some (a, u, h) => dLeave P fn u (aCode P call lf fn.ntmps rest a h)
    | _, _ => none
  | _ => none
def callD (P : Program) (call : CallF) (lf : Nat) (f : FuncId) (args : List AV) (u : Option AV) (h : AHeap) : Option (Option AV × AHeap) :=
  match P.funcs[f]? with
  | none => none
  | some fn => match fn.body with
    | none => none
    | some c => if Nat.ble args.length fn.ntmps = true ∧ hasBody P f = true then dBody P call lf fn ⟨T.put .e 0 args, []⟩ u h c else none
/-- the deferred calls, one behind the other; at last it returns, or panics on -/
def isMrk : List AV → Bool
  | .mrk _ :: _ => true
  | _ => false
def runD (P : Program) (call : CallF) (lf : Nat) (fn : Func) (a : AAct) : List (FuncId × List AV × List AV) → Option AV → AHeap → Option (ARes × AHeap)
  | [], none, h => retA h (resAll P a h fn.results.toList)
  | [], some v, h => some (.panic v, h)
  | (f, args, cap) :: ds, u, h => match isMrk cap with
    | true => none
    | false => match callD P call lf f (args ++ cap) u h with
      | some (u, h) => runD P call lf fn a ds u h
      | none => none
def leaveA (P : Program) (call : CallF) (lf : Nat) (fn : Func) : CodeT → Option (ARes × AHeap)
  | some (.normal, a, h) => runD P call lf fn a a.defers none h
  | some (.ret, a, h) => runD P call lf fn a a.defers none h
  | some (.panic v, a, h) => runD P call lf fn a a.defers (some v) h
  | _ => none
def bodyA (P : Program) (call : CallF) (lf : Nat) (f : FuncId) (args : List AV) (h : AHeap) : Option (ARes × AHeap) :=
  match P.funcs[f]? with
  | none => none
  | some fn => match fn.body with
    | none => none
    | some c => if Nat.ble args.length fn.ntmps = true then leaveA P call lf fn (aCode P call lf fn.ntmps c ⟨T.put .e 0 args, []⟩ h) else none

/-- what is said of a function besides -/
abbrev SpecT := FuncId → Option (CallF → List AV → AHeap → Option (ARes × AHeap))

def callA (P : Program) (spec : SpecT) (lf : Nat) : Nat → CallF
  | 0 => fun _ _ _ => none
  | d + 1 => fun f args h => match spec f with
    | some s => s (callA P spec lf d) args h
    | none => bodyA P (callA P spec lf d) lf f args h


end
end Go.Proofs.Ytpnccmlajhhpdaa.Abs
