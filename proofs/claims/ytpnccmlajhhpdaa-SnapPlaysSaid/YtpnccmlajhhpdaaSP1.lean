/- What snapPlays_proved stands on, part 1 of 10. -/
import Derived.WalkKit
import Derived.Orders
import Derived.Below
import Derived.Laws.IdiomCopy
import Derived.Laws.Rows
import Derived.Laws.Append
import Derived.Laws.AppendOwn
import Derived.Deep.MidRow
import Derived.ChangeKeysEq
import Derived.Laws.StructEq
import Derived.WalkLawsBesides
import Derived.WalkSpells
import Derived.Great.BuildSlice
import Derived.Laws.MakeOwn
import Derived.Laws.Slices
import Derived.Conc.MuLone
import Derived.Lib.Builder
namespace Go.Proofs.Ytpnccmlajhhpdaa.Abs
noncomputable section
inductive AV where
 |bool (b:Bool)
 |int (k:IntKind) (n:Int)
 |str (n v:Nat)
 |ptr (b o:Nat)
 |nilp
 |sl (b o n sz:Nat)
 |nsl
 |esl
 |mp (b:Nat)
 |nmp
 |fn (f:FuncId) (first captured:List AV)
 |nfn
 |ifc (t:TypeId) (v:AV)
 |nifc
 |agg (l:List AV)
 |tup (l:List AV)
 |yld (b:Nat)
 |mrk (b:Nat)
 |gptr (g o:Nat)
 deriving Inhabited
inductive Path where
 |z
 |a (p:Path)
 |b (p:Path)
 |c (p:Path)
 |d (p:Path)
def z352:Nat→Nat→Path
 |0,_=>.z
 |f+1,i=>match i with
  |0=>.z
  |i+1=>match i%4 with
   |0=>.a (z352 f (i/4))
   |1=>.b (z352 f (i/4))
   |2=>.c (z352 f (i/4))
   |_=>.d (z352 f (i/4))
def z3ae(i:Nat):Path:=z352 i i
inductive T (α:Type) where
 |e
 |n (v:Option α) (a b c d:T α)
 deriving Inhabited
def y2a{α:Type}(p:Path):T α→Option α:= @Path.rec (fun _=>T α→Option α)
 (fun t=>T.casesOn t none (fun v _ _ _ _=>v)) (fun _ ih t=>T.casesOn t none (fun _ a _ _ _=>ih a)) (fun _ ih t=>T.casesOn t none (fun _ _ b _ _=>ih b))
 (fun _ ih t=>T.casesOn t none (fun _ _ _ c _=>ih c)) (fun _ ih t=>T.casesOn t none (fun _ _ _ _ d=>ih d)) p
def T.setP{α:Type}(p:Path):T α→α→T α:= @Path.rec (fun _=>T α→α→T α)
 (fun t x=>T.casesOn t (.n (some x) .e .e .e .e) (fun _ a b c d=>.n (some x) a b c d))
 (fun _ ih t x=>T.casesOn t (.n none (ih .e x) .e .e .e) (fun v a b c d=>.n v (ih a x) b c d))
 (fun _ ih t x=>T.casesOn t (.n none .e (ih .e x) .e .e) (fun v a b c d=>.n v a (ih b x) c d))
 (fun _ ih t x=>T.casesOn t (.n none .e .e (ih .e x) .e) (fun v a b c d=>.n v a b (ih c x) d))
 (fun _ ih t x=>T.casesOn t (.n none .e .e .e (ih .e x)) (fun v a b c d=>.n v a b c (ih d x))) p
def T.get{α:Type}(t:T α)(i:Nat):Option α:=y2a (z3ae i) t
def T.set{α:Type}(t:T α)(i:Nat)(x:α):T α:=T.setP (z3ae i) t x
def T.put{α:Type}:T α→Nat→List α→T α
 |t,_,[]=>t
 |t,i,x::l=>(t.set i x).put (i+1) l
def T.take{α:Type}(t:T α):Nat→Nat→Option (List α)
 |_,0=>some []
 |i,k+1=>match t.get i,t.take (i+1) k with
  |some x,some l=>some (x::l)
  |_,_=>none
inductive AJump where
 |none
 |ret
 |exit (id:Nat)
def AJump.code:AJump→Option Code
 | .none=>Option.none
 | .ret=>some .ret
 | .exit id=>some (.exit id)
def AJump.isNone:AJump→Bool
 | .none=>true
 |_=>false
structure ALoop where
 st:LoopState
 pend:AJump
 tmps:T AV
 N:Nat
 ps:Array Tmp
 assign:Code
 body:Code
 dfr:Nat
inductive AKeep where
 |loop (r:ALoop)
 |dfr
 |shut
inductive AObj where
 |row (n:Nat) (t:T AV) (e:TypeId)
 |map (es:List (AV×AV))
 |dead
 |ro (t:T AV)
 |obj (q:AKeep)
 |glob (t:T AV)
instance:Inhabited AObj:=⟨.dead⟩
def zbf(i:Nat):List Nat→Bool
 |[]=>false
 |j::l=>Nat.beq i j||zbf i l
structure AHeap where
 next:Nat
 ex:List Nat
 tree:T AObj
 deriving Inhabited
def AHeap.get(h:AHeap)(b:Nat):Option AObj:=h.tree.get b
def AHeap.put(h:AHeap)(b:Nat)(o:AObj):AHeap:=⟨h.next,h.ex,h.tree.set b o⟩
def AHeap.new(h:AHeap)(o:AObj):AHeap:=⟨h.next+1,h.ex,h.tree.set h.next o⟩
def zb0(l:List AV)(e:TypeId):AObj:=.row l.length (T.put .e 0 l) e
def enc(l:List UInt8):Nat:= @List.rec UInt8 (fun _=>Nat) 0 (fun b _ ih=>b.toNat+256*ih) l
mutual
def zfb:Value→Option AV
 | .bool b=>some (.bool b)
 | .int k n=>some (.int k n)
 | .string s=>some (.str s.data.toList.length (enc s.data.toList))
 | .pointer none=>some .nilp
 | .slice none 0 0=>some .nsl
 | .map none=>some .nmp
 | .nilFunc=>some .nfn
 | .nilIface=>some .nifc
 | .iface t v=>match zfb v with
  |some x=>some (.ifc t x)
  |none=>none
 | .agg ⟨l⟩=>match z267 l with
  |some x=>some (.agg x)
  |none=>none
 | .tuple ⟨l⟩=>match z267 l with
  |some x=>some (.tup x)
  |none=>none
 | .func (.func f) ⟨a⟩ ⟨b⟩=>match z267 a,z267 b with
  |some x,some y=>some (.fn f x y)
  |_,_=>none
 |_=>none
def z267:List Value→Option (List AV)
 |[]=>some []
 |v::l=>match zfb v,z267 l with
  |some x,some y=>some (x::y)
  |_,_=>none
end
def AV.cells:AV→List AV
 | .agg l=>l
 |v=>[v]
def AV.one:AV→Bool
 | .agg _| .tup _=>false
 | .mrk _=>false
 |_=>true
inductive ANext where
 |val (v:AV)
 |skip
 |call (f:FuncId) (args:List AV)
 |panic (v:AV)
 |defer (f:FuncId) (args cap:List AV)
 |round (b:Nat) (args:List AV)
abbrev z8a:=Option (ANext×AHeap)
abbrev z1be:=Operand→Option AV
def z1a7:TypeDesc→Bool
 | .struct _=>true
 | .array _ _=>true
 |_=>false
def z1ab(P:Program)(t:TypeId):Option Bool:=match P.underlying t with
 |some d=>some (z1a7 d)
 |none=>none
def z44(h:AHeap)(b o n:Nat):Option (List AV):=
 match h.get b with
 |some (.row _ t _)=>t.take o n
 |some (.ro t)=>t.take o n
 |some (.glob t)=>t.take o n
 |_=>none
def z9e(h:AHeap)(b o:Nat):Option AV:=
 match h.get b with
 |some (.row _ t _)=>t.get o
 |some (.ro t)=>t.get o
 |some (.glob t)=>t.get o
 |_=>none
def z1b3(h:AHeap)(b o:Nat)(l:List AV):Option AHeap:=
 match h.get b with
 |some (.row n t e)=>if Nat.ble (o+l.length) n=true∧l.all AV.one=true then some (h.put b (.row n (t.put o l) e)) else none
 |_=>none
def z1a5(h:AHeap):Option AV→z8a
 |some x=>some (.val x,h)
 |none=>none
def z30d(h:AHeap)(e:TypeId)(l:List AV):z8a:=if l.all AV.one=true then some (.val (.ptr h.next 0),h.new (zb0 l e)) else none
def z83(h:AHeap)(e:TypeId)(l:List AV)(n sz:Nat):z8a:=if l.all AV.one=true∧zbf e h.ex=false then some (.val (.sl h.next 0 n sz),h.new (zb0 l e)) else none
def z176(P:Program)(t:TypeId):Option AV:=match P.info? t with
 |some i=>match i.zero with
  |some v=>match zfb v with
   |some x=>if x.cells.length=i.size then some x else none
   |none=>none
  |none=>none
 |none=>none
def z1f8(P:Program)(t:TypeId)(cs:List AV)(o:Nat):Option AV:=
 match z1ab P t with
 |some true=>if Nat.ble (o+P.cellsOf t) cs.length=true then some (.agg ((cs.drop o).take (P.cellsOf t))) else none
 |some false=>cs[o]?
 |none=>none
def lput{α:Type}:List α→Nat→List α→List α
 |cs,_,[]=>cs
 |[],_,_=>[]
 |_::cs,0,v::vs=>v::lput cs 0 vs
 |c::cs,o+1,vs=>c::lput cs o vs
def z258(place:Nat→Option (Nat×Nat))(cells:List AV):List (Nat×AV)→Option (List AV)
 |[]=>some cells
 |(i,v)::rest=>match place i with
  |none=>none
  |some (off,size)=>if v.cells.length=size∧off+size≤cells.length then z258 place (lput cells off v.cells) rest else none
def elemOf(P:Program)(t:TypeId):Option TypeId:=match P.underlying t with
 |some (.slice e)=>some e
 |_=>none
mutual
def eqA(P:Program):Nat→TypeId→AV→AV→Option Bool
 |0,_,_,_=>none
 |d+1,t,x,y=>
  match P.underlying t with
  |some .bool=>match x,y with
   | .bool a,.bool b=>some (a == b)
   |_,_=>none
  |some (.int _)=>match x,y with
   | .int k a,.int k' b=>if k=k' then some (a == b) else none
   |_,_=>none
  |some .string=>match x,y with
   | .str n a,.str m b=>some (Nat.beq n m&&Nat.beq a b)
   |_,_=>none
  |some (.struct _)=>match x,y with
   | .agg xs,.agg ys=>if P.stoodInHeld t then none else eqFields P d (P.fieldsOf t).toList xs ys
   |_,_=>none
  |some (.array n e)=>match x,y with
   | .agg xs,.agg ys=>match P.info? e with
    |some _=>z25c P d e (P.cellsOf e) n 0 xs ys
    |none=>none
   |_,_=>none
  |_=>none
def eqFields(P:Program):Nat→List Field→List AV→List AV→Option Bool
 |0,_,_,_=>none
 |_+1,[],_,_=>some true
 |d+1,f::fs,xs,ys=>
  if f.name= "_" then eqFields P d fs xs ys else
  match z1f8 P f.type xs f.offset,z1f8 P f.type ys f.offset with
  |some a,some b=>match eqA P d f.type a b with
   |some true=>eqFields P d fs xs ys
   |r=>r
  |_,_=>none
def z25c(P:Program):Nat→TypeId→Nat→Nat→Nat→List AV→List AV→Option Bool
 |0,_,_,_,_,_,_=>none
 |_+1,_,_,0,_,_,_=>some true
 |d+1,e,s,n+1,i,xs,ys=>
  match z1f8 P e xs (i*s),z1f8 P e ys (i*s) with
  |some a,some b=>match eqA P d e a b with
   |some true=>z25c P d e s n (i+1) xs ys
   |r=>r
  |_,_=>none
end
def z3dc(op:BinOp)(k:IntKind)(a b:Int):Option AV:=
  match op with
  | .add=>some (.int k (k.wrap (a+b)))
  | .sub=>some (.int k (k.wrap (a - b)))
  | .mul=>some (.int k (k.wrap (a*b)))
  | .quo=>if b=0 then none else some (.int k (k.wrap (a.tdiv b)))
  | .rem=>if b=0 then none else some (.int k (a.tmod b))
  | .and=>some (.int k (k.wrap (BitVec.ofInt k.bits a&&&BitVec.ofInt k.bits b).toNat))
  | .or=>some (.int k (k.wrap (BitVec.ofInt k.bits a|||BitVec.ofInt k.bits b).toNat))
  | .xor=>some (.int k (k.wrap (BitVec.ofInt k.bits a ^^^ BitVec.ofInt k.bits b).toNat))
  | .andNot=>some (.int k (k.wrap (BitVec.ofInt k.bits a&&& ~~~ BitVec.ofInt k.bits b).toNat))
  | .eql=>some (.bool (a == b))
  | .neq=>some (.bool (a != b))
  | .lss=>some (.bool (a<b))
  | .leq=>some (.bool (a≤b))
  | .gtr=>some (.bool (a>b))
  | .geq=>some (.bool (a≥b))
  |_=>none
def z45e(op:BinOp)(n a m b:Nat):Option AV:=
  match op with
  | .add=>if Nat.ble (n+m) 1000000000=true then some (.str (n+m) (a+256 ^ n*b)) else none
  | .eql=>some (.bool (Nat.beq n m&&Nat.beq a b))
  | .neq=>some (.bool (!(Nat.beq n m&&Nat.beq a b)))
  |_=>none
def z1d3(op:BinOp)(k:IntKind)(a b:Int):Option AV:=
 if b<0 then none else match op with
 | .shl=>some (.int k (k.wrap (a*2 ^ (min b.toNat k.bits))))
 | .shr=>some (.int k (a.fdiv (2 ^ (min b.toNat k.bits))))
 |_=>none
def z41f(op:BinOp)(k k':IntKind)(a b:Int):Option AV:=match op with
 | .shl=>z1d3 .shl k a b
 | .shr=>z1d3 .shr k a b
 |op=>if k=k' then z3dc op k a b else none
def nilA:AV→AV→Option Bool
 | .nilp,.nilp=>some true
 | .nilp,.ptr _ _=>some false
 | .ptr _ _,.nilp=>some false
 | .nsl,.nsl=>some true
 | .nsl,.sl ..=>some false
 | .nsl,.esl=>some false
 | .sl ..,.nsl=>some false
 | .esl,.nsl=>some false
 | .nmp,.nmp=>some true
 | .nmp,.mp _=>some false
 | .mp _,.nmp=>some false
 | .nfn,.nfn=>some true
 | .nfn,.fn ..=>some false
 | .fn ..,.nfn=>some false
 | .nifc,.ifc _ _=>some false
 | .ifc _ _,.nifc=>some false
 |_,_=>none
def z405(P:Program)(t:TypeId)(x y:AV):Bool:=match P.underlying t,x,y with
 |some (.pointer _),.nilp,_=>true
 |some (.pointer _),_,.nilp=>true
 |some (.slice _),.nsl,_=>true
 |some (.slice _),_,.nsl=>true
 |some (.map _ _),.nmp,_=>true
 |some (.map _ _),_,.nmp=>true
 |some (.func _ _ _),.nfn,_=>true
 |some (.func _ _ _),_,.nfn=>true
 |some (.interface _),.nifc,_=>true
 |some (.interface _),_,.nifc=>true
 |_,_,_=>false
def z191(P:Program)(t:TypeId)(b o:Nat):AV→Option Bool
 | .ptr b' o'=>match P.underlying t with
  |some (.pointer e)=>if Nat.beq b b'=true∧Nat.beq o o'=true∧(P.info? e).isSome then some true else none
  |_=>none
 | .nilp=>match P.underlying t with
  |some (.pointer _)=>some false
  |_=>none
 |_=>none
def z9f(P:Program)(t:TypeId)(x y:AV):Option Bool:=match x with
 | .agg _=>if P.eqGuardType P.depth t then none else eqA P 2000 t x y
 | .bool _=>eqA P 2000 t x y
 | .ptr b o=>z191 P t b o y
 |_=>if z405 P t x y then nilA x y else none
def z1d4(P:Program)(op:BinOp)(t:TypeId)(x y:AV):Option AV:=
 match op with
 | .eql=>match z9f P t x y with
  |some b=>some (.bool b)
  |none=>none
 | .neq=>match z9f P t x y with
  |some b=>some (.bool (!b))
  |none=>none
 |_=>none
def nilIf(op:BinOp)(P:Program)(t:TypeId):Option AV:=match P.underlying t,op with
 |some (.interface _),.eql=>some (.bool true)
 |some (.interface _),.neq=>some (.bool false)
 |_,_=>none
def binA(P:Program)(op:BinOp)(t:TypeId)(x y:AV)(lit:Bool):Option AV:=
 match x with
 | .int k a=>match y with
  | .int k' b=>z41f op k k' a b
  |_=>none
 | .str n a=>match y with
  | .str m b=>z45e op n a m b
  |_=>none
 | .nifc=>match y with
  | .nifc=>if lit then nilIf op P t else none
  |y=>z1d4 P op t .nifc y
 |x=>z1d4 P op t x y
def z205:AV→Option Nat
 | .sl _ _ n _=>some n
 | .esl| .nsl=>some 0
 | .str n _=>some n
 |_=>none
def z13e:Nat→Nat→List AV
 |0,_=>[]
 |n+1,v=>.int .u8 ((v%256:Nat):Int)::z13e n (v/256)
def z10d(h:AHeap)(sz n:Nat):AV→Option (List AV)
 | .sl b o m sz'=>if sz'=sz∧n≤m then z44 h b o (n*sz) else none
 | .esl| .nsl=>if n=0 then some [] else none
 | .str m v=>if Nat.ble n m=true∧sz=1 then some (z13e n v) else none
 |_=>none
def z91(h:AHeap)(b:Nat):Option TypeId:=match h.get b with
 |some (.row _ _ e)=>some e
 |_=>none
def z2d9(h:AHeap)(e b o m sz:Nat)(news:List AV)(n:Nat):z8a:=
 match z44 h b o (m*sz),z91 h b with
 |some cs,some e'=>if Nat.beq e' e=true then some (.val (.sl h.next 0 (m+n) sz),(h.put b .dead).new (zb0 (cs++news) e)) else none
 |_,_=>none
def z2da(h:AHeap)(e sz:Nat)(s:AV)(news:List AV)(n:Nat):z8a:=
 match s with
 | .nsl=>match n with
  |0=>some (.val .nsl,h)
  |n+1=>some (.val (.sl h.next 0 (n+1) sz),h.new (zb0 news e))
 | .sl b o m sz'=>match n with
  |0=>some (.val (.sl b o m sz'),h)
  |n+1=>if sz'=sz then z2d9 h e b o m sz news (n+1) else none
 |_=>none
def zc9(P:Program)(e:TypeId)(n:Nat):Bool:=match P.info? e with
 |some i=>Nat.ble (n*i.bytes) 140737488355328&&Nat.ble n 140737488355328&&Nat.ble 1 i.size&&i.zero.any (fun z=>z.cells.size == i.size)
 |none=>false
def z34(P:Program)(h:AHeap)(t u:TypeId)(s x:AV):z8a:=
 match elemOf P t,z205 s,z205 x,P.underlying u with
 |some e,some m,some n,some ud=>match ud with
  | .int _=>none
  |_=>match z10d h (P.cellsOf e) n x with
   |some news=>if zc9 P e (m+n)=true∧news.all AV.one=true∧zbf e h.ex=false then z2da h e (P.cellsOf e) s news n else none
   |none=>none
 |_,_,_,_=>none
def z30f(P:Program)(h:AHeap)(t:TypeId)(d s:AV):z8a:=
 match elemOf P t,z205 d,z205 s with
 |some e,some m,some n=>match z10d h (P.cellsOf e) (Nat.min n m) s with
  |some cs=>match d with
   | .sl b o _ sz => if sz = P.cellsOf e ∧ (P.info? e).isSome then match z1b3 h b o cs with
     |some h=>some (.val (.int .i64 (Nat.min n m:Nat)),h)
     |none=>none
    else none
   | .esl=>match cs with
    |[]=>if (P.info? e).isSome then some (.val (.int .i64 (Nat.min n m:Nat)),h) else none
    |_=>none
   | .nsl=>match cs with
    |[]=>if (P.info? e).isSome then some (.val (.int .i64 (Nat.min n m:Nat)),h) else none
    |_=>none
   |_=>none
  |none=>none
 |_,_,_=>none
def z223(h:AHeap):AV→Option (List (AV×AV))
 | .nmp=>some []
 | .mp b=>match h.get b with
  |some (.map es)=>some es
  |_=>none
 |_=>none
def z172(k x:AV):Option Bool:=match k with
 | .int a n=>match x with
  | .int b m=>if a=b then some (n == m) else none
  |_=>none
 | .str n s=>match x with
  | .str m u=>some (Nat.beq n m&&Nat.beq s u)
  |_=>none
 | .bool s=>match x with
  | .bool u=>some (s == u)
  |_=>none
 |_=>none
def plainKT(P:Program)(t:TypeId):Bool:=match P.underlying t with
 |some (.int _)=>true
 |some .string=>true
 |some .bool=>true
 |_=>false
def z47b(P:Program)(l:List AV):List Field→Bool
 |[]=>true
 |f::fs=>(f.name != "_")&&plainKT P f.type&&(z1f8 P f.type l f.offset).isSome&&z47b P l fs
def z1ca:List AV→List AV→Bool
 |[],[]=>true
 |a::l,b::m=>match z172 a b with
  |some true=>z1ca l m
  |_=>false
 |_,_=>false
def z173(P:Program)(t:TypeId)(k x:AV):Option Bool:=match k with
 | .agg l=>match x with
  | .agg m=>match eqA P 64 t (.agg l) (.agg m) with
   |some true=>match z1ca l m with
    |true=>some true
    |false=>none
   |r=>r
  |_=>none
 |k=>z172 k x
def keyT(P:Program)(t:TypeId)(k:AV):Bool:=match P.underlying t with
 |some (.int _)=>match k with
  | .int ..=>true
  |_=>false
 |some .string=>match k with
  | .str _ _=>true
  |_=>false
 |some .bool=>match k with
  | .bool _=>true
  |_=>false
 |some (.struct fs)=>match k with
  | .agg l=>z47b P l fs.toList
  |_=>false
 |_=>false
def z484(P:Program)(t:TypeId)(k:AV):List (AV×AV)→Option (Option AV)
 |[]=>some none
 |(x,v)::es=>match z173 P t k x with
  |some true=>some (some v)
  |some false=>z484 P t k es
  |none=>none
def putM(P:Program)(t:TypeId)(k v:AV):List (AV×AV)→Option (List (AV×AV))
 |[]=>some [(k,v)]
 |(x,u)::es=>match z173 P t k x with
  |some true=>some ((k,v)::es)
  |some false=>match putM P t k v es with
   |some r=>some ((x,u)::r)
   |none=>none
  |none=>none
def delM(P:Program)(t:TypeId)(k:AV):List (AV×AV)→Option (List (AV×AV))
 |[]=>some []
 |(x,u)::es=>match z173 P t k x with
  |some true=>some es
  |some false=>match delM P t k es with
   |some r=>some ((x,u)::r)
   |none=>none
  |none=>none
def z1fc(P:Program)(h:AHeap)(et:TypeId)(ok:Bool):Option (Option AV)→z8a
 |some (some x)=>some (.val (if ok then .tup [x,.bool true] else x),h)
 |some none=>match z176 P et with
  |some z=>some (.val (if ok then .tup [z,.bool false] else z),h)
  |none=>none
 |none=>none
def z194(P:Program)(h:AHeap)(t:TypeId)(ok:Bool):Option AV→Option AV→z8a
 |some m,some k=>match P.underlying t with
  | some (.map kt et) => if keyT P kt k then match z223 h m with
    |some es=>z1fc P h et ok (z484 P kt k es)
    |none=>none
   else none
  |_=>none
 |_,_=>none
def mapPut(h:AHeap)(b:Nat):Option (List (AV×AV))→z8a
 |some es=>some (.skip,h.put b (.map es))
 |none=>none
def z193(P:Program)(h:AHeap)(t:TypeId):Option AV→Option AV→Option AV→z8a
 |some (.mp b),some k,some x=>match P.underlying t with
  | some (.map kt _) => if keyT P kt k then match z223 h (.mp b) with
    |some es=>mapPut h b (putM P kt k x es)
    |none=>none
   else none
  |_=>none
 |_,_,_=>none
def z354(P:Program)(h:AHeap)(t:TypeId)(m k:AV):z8a:=match m,P.underlying t with
 | .mp b, some (.map kt _) => if keyT P kt k then match z223 h (.mp b) with
   |some es=>match delM P kt k es with
    |some es=>some (.val (.tup []),h.put b (.map es))
    |none=>none
   |none=>none
  else none
 |_,_=>none
def z2af(h:AHeap):Option Operand→z8a
 |none=>some (.val (.mp h.next),h.new (.map []))
 |some _=>none
def z3fa(P:Program)(h:AHeap)(t:TypeId)(x:AV):z8a:=match elemOf P t with
 |some e=>match x with
  | .nsl=>some (.val (.tup []),h)
  | .esl=>some (.val (.tup []),h)
  | .sl b o n sz=>match z176 P e with
   | some z => if sz = P.cellsOf e then match z1b3 h b o (List.replicate n z.cells).flatten with
     |some h=>some (.val (.tup []),h)
     |none=>none
    else none
   |none=>none
  |_=>none
 |none=>none
def z21b(P:Program)(h:AHeap)(t:TypeId)(x:AV):z8a:=match P.underlying t with
 |some (.array n _)=>some (.val (.int .i64 (n:Int)),h)
 |some .string=>match x with
  | .str n _=>some (.val (.int .i64 (n:Int)),h)
  |_=>none
 |some (.slice _)=>match x with
  | .sl _ _ n _=>some (.val (.int .i64 (n:Int)),h)
  | .esl| .nsl=>some (.val (.int .i64 0),h)
  |_=>none
 |some (.map _ _)=>match z223 h x with
  |some es=>some (.val (.int .i64 (es.length:Int)),h)
  |none=>none
 |_=>none
def z2b6(k:IntKind):Int→List AV→Option AV
 |m,[]=>some (.int k m)
 |m,.int _ n::l=>z2b6 k (if n<m then n else m) l
 |_,_=>none
def z2b7(k:IntKind):Int→List AV→Option AV
 |m,[]=>some (.int k m)
 |m,.int _ n::l=>z2b7 k (if n>m then n else m) l
 |_,_=>none
def z1bd:List AV→Option (Nat×Nat)
 |[]=>some (0,0)
 | .int .u8 (.ofNat b)::l=>match z1bd l with
  |some (n,v)=>if Nat.blt b 256=true then some (n+1,b+256*v) else none
  |none=>none
 |_=>none
def ze9(h:AHeap):AV→z8a
 | .sl b o (_+1) _=>some (.val (.ptr b o),h)
 | .nsl=>some (.val .nilp,h)
 |_=>none
def zbe(P:Program)(h:AHeap)(pt:TypeId):AV→AV→z8a
 | .nilp,.int _ (.ofNat 0)=>some (.val (.str 0 0),h)
 | .ptr _ _,.int _ (.ofNat 0)=>some (.val (.str 0 0),h)
 | .ptr b o,.int _ (.ofNat (n+1))=>match P.underlying pt,z44 h b o (n+1),z91 h b with
  | some (.pointer e), some cs, some e' => if Nat.beq e' e = true ∧ Nat.beq (P.cellsOf e) 1 = true ∧ Nat.ble (n + 1) 1000000000 = true then match z1bd cs with
    |some (m,v)=>some (.val (.str m v),h.put b .dead)
    |none=>none
   else none
  |_,_,_=>none
 |_,_=>none
def z10f(P:Program)(b:Builtin)(ts:Array TypeId)(args:List AV)(h:AHeap):z8a:=
 match b with
 | .len=>match args,ts.toList with
  |[x],t::_=>z21b P h t x
  |_,_=>none
 | .append=>match args,ts.toList with
  |[s,x],t::u::_=>z34 P h t u s x
  |_,_=>none
 | .copy=>match args,ts.toList with
  |[d,s],t::_=>z30f P h t d s
  |_,_=>none
 | .clear=>match args,ts.toList with
  |[x],t::_=>z3fa P h t x
  |_,_=>none
 | .delete=>match args,ts.toList with
  |[m,k],t::_=>z354 P h t m k
  |_,_=>none
 | .max=>match args with
  | .int k a::rest=>z1a5 h (z2b7 k a rest)
  |_=>none
 | .min=>match args with
  | .int k a::rest=>z1a5 h (z2b6 k a rest)
  |_=>none
 | .panic=>match args with
  |[.ifc t v]=>some (.panic (.ifc t v),h)
  |_=>none
 | .unsafeSliceData=>match args with
  |[x]=>ze9 h x
  |_=>none
 | .unsafeString=>match args,ts.toList with
  |[x,n],[pt,_]=>zbe P h pt x n
  |_,_=>none
 | .cap=>match args,ts.toList with
  |[.nsl],t::_=>match elemOf P t with
   |some _=>some (.val (.int .i64 0),h)
   |none=>none
  |_,_=>none
 |_=>none
def zd9(h:AHeap)(e:TypeId):Option AV→z8a
 |some z=>z30d h e z.cells
 |none=>none
def z219(ρ:z1be):List (Nat×Operand)→Option (List (Nat×AV))
 |[]=>some []
 |(i,x)::l=>match ρ x,z219 ρ l with
  |some v,some r=>some ((i,v)::r)
  |_,_=>none
def z286(ρ:z1be):List Operand→Option (List AV)
 |[]=>some []
 |x::l=>match ρ x,z286 ρ l with
  |some v,some r=>some (v::r)
  |_,_=>none
def z18b(P:Program)(fs:Array Field)(i:Nat):Option (Nat×Nat):=match fs[i]? with
 |some f=>some (f.offset,P.cellsOf f.type)
 |none=>none
def z366(P:Program)(fs:Array Field):Bool:=fs.all fun f=>(P.info? f.type).isSome
def z1e4(h:AHeap):Option (List AV)→z8a
 |some l=>some (.val (.agg l),h)
 |none=>none
def z196(P:Program)(ρ:z1be)(h:AHeap)(t:TypeId)(parts:Array (Nat×Operand)):z8a:=
 match z176 P t,z219 ρ parts.toList with
 |some z,some ps=>match P.underlying t with
  |some (.struct fs)=>if z366 P fs then z1e4 h (z258 (z18b P fs) z.cells ps) else none
  |some (.array _ e)=>if (P.info? e).isSome then z1e4 h (z258 (fun i=>some (i*P.cellsOf e,P.cellsOf e)) z.cells ps) else none
  |_=>none
 |_,_=>none
def noParts:List (Nat×Operand)→Bool
 |[]=>true
 |_=>false
def z16c(P:Program)(ρ:z1be)(h:AHeap)(t:TypeId)(len:Nat)(parts:Array (Nat×Operand)):z8a:=
 match elemOf P t,z219 ρ parts.toList with
 |some e,some ps=>match z176 P e with
  |some z=>match len with
   |0=>if noParts parts.toList=true then z83 h e [] 0 (P.cellsOf e) else none
   | len + 1 => if (len + 1) * P.cellsOf e ≤ 1000000 ∧ 0 < P.cellsOf e then
     match z258 (fun i=>some (i*P.cellsOf e,P.cellsOf e)) (List.replicate (len+1) z.cells).flatten ps with
     |some cs=>z83 h e cs (len+1) (P.cellsOf e)
     |none=>none
    else none
  |none=>none
 |_,_=>none
def za4(P:Program)(h:AHeap)(t:TypeId):Option AV→z8a
 |some (.ptr b o)=>match z1ab P t with
  |some true=>match z44 h b o (P.cellsOf t) with
   |some l=>some (.val (.agg l),h)
   |none=>none
  |some false=>z1a5 h (z9e h b o)
  |none=>none
 |some (.gptr b o)=>match h.get b with
  |some (.glob _)=>match z1ab P t with
   |some true=>match z44 h b o (P.cellsOf t) with
    |some l=>some (.val (.agg l),h)
    |none=>none
   |some false=>z1a5 h (z9e h b o)
   |none=>none
  |_=>none
 |_=>none
def z252(P:Program)(h:AHeap)(t:TypeId):Option AV→Option AV→z8a
 | some (.ptr b o), some x => if x.cells.length = P.cellsOf t ∧ (P.info? t).isSome then match z1b3 h b o x.cells with
   |some h=>some (.skip,h)
   |none=>none
  else none
 |_,_=>none
def z3b2(h:AHeap):Option AV→z8a
 |some (.ptr b o)=>some (.val (.ptr b o),h)
 |some (.gptr b o)=>some (.val (.gptr b o),h)
 |some (.fn f a b)=>some (.val (.fn f a b),h)
 |some (.ifc t v)=>some (.val (.ifc t v),h)
 |_=>none
def z141:Operand→Bool
 | .const _=>true
 |_=>false
def z75(P:Program)(h:AHeap)(op:BinOp)(t:TypeId)(lit:Bool):Option AV→Option AV→z8a
 |some x,some y=>z1a5 h (binA P op t x y lit)
 |_,_=>none
def z440(h:AHeap)(b o:Nat):Bool:=match h.get b with
 |some (.row n _ e)=>Nat.blt o n&&zbf e h.ex
 |_=>false
def z433(P:Program)(t:TypeId):Bool:=match P.underlying t with
 |some (.pointer e)=>match P.info? e with
  |some i=> !(Nat.beq i.size 0)
  |none=>false
 |_=>false
def z1a2(P:Program)(h:AHeap)(t:TypeId):AV→AV→Bool
 | .ptr b o,.ptr b' o'=> !Nat.beq b b'&&(z440 h b o&&(z440 h b' o'&&z433 P t))
 |_,_=>false
def z21c(P:Program)(h:AHeap)(op:BinOp)(t:TypeId)(lit:Bool):Option AV→Option AV→z8a
 |some x,some y=>match !lit&&z1a2 P h t x y with
  |true=>match op with
   | .eql=>some (.val (.bool false),h)
   | .neq=>some (.val (.bool true),h)
   |_=>none
  |false=>z75 P h op t lit (some x) (some y)
 |_,_=>none
def opUn(h:AHeap)(op:UnOp):Option AV→z8a
 |some (.int k n)=>match op with
  | .neg=>some (.val (.int k (k.wrap (0 - n))),h)
  | .xor=>some (.val (.int k (k.wrap (BitVec.ofInt k.bits (if k.signed then -1 else k.max) ^^^ BitVec.ofInt k.bits n).toNat)),h)
  |_=>none
 |some (.bool b)=>match op with
  | .not=>some (.val (.bool (!b)),h)
  |_=>none
 |_=>none
def z36c(P:Program)(h:AHeap)(d:TypeId)(n v:Nat):z8a:=match P.underlying d with
 |some .string=>some (.val (.str n v),h)
 |some (.slice e)=>match P.underlying e with
  |some (.int .u8)=>if P.cellsOf e=1 then z83 h e (z13e n v) n 1 else none
  |_=>none
 |_=>none
def ze0(P:Program)(h:AHeap)(s d:TypeId)(x:Option (List AV)):z8a:=match P.underlying d,P.underlying s with
 |some .string,some (.slice e)=>match P.underlying e,x with
  |some (.int .u8),some cs=>match z1bd cs with
   |some (n,v)=>some (.val (.str n v),h)
   |none=>none
  |_,_=>none
 |_,_=>none
def z261(P:Program)(h:AHeap)(s d:TypeId)(b o:Nat):z8a:=match P.underlying s with
 |some (.pointer t)=>match P.underlying d,P.info? t,h.get b with
  |some .unsafePointer,some i,some (.row n _ _)=>if Nat.blt o n=true∧Nat.beq i.size 0=false then some (.val (.ptr b o),h) else none
  |_,_,_=>none
 |some .unsafePointer=>match P.underlying d,h.get b with
  |some (.pointer u),some (.row n _ e)=>if zbf e h.ex=true∧liesAt P P.depth e (n/P.cellsOf e) o u 1=true∧(P.info? u).isSome then some (.val (.ptr b o),h) else none
  |_,_=>none
 |_=>none
def z7b(P:Program)(h:AHeap)(s d:TypeId):Option AV→z8a
 |some (.ptr b o)=>z261 P h s d b o
 |some (.int _ n)=>match P.underlying s,P.underlying d with
  |some _,some (.int k)=>some (.val (.int k (k.wrap n)),h)
  |_,_=>none
 |some (.str n v)=>match P.underlying s with
  |some .string=>z36c P h d n v
  |_=>none
 |some (.sl b o n sz)=>if sz=1 then ze0 P h s d (z44 h b o n) else none
 |some .nsl=>ze0 P h s d (some [])
 |some .esl=>ze0 P h s d (some [])
 |_=>none
def z1cb(P:Program)(t:TypeId):Bool:=match P.underlying t with
 |some (.interface _)|none=>false
 |some _=>true
def z1f9(P:Program)(h:AHeap)(t:TypeId):Option AV→z8a
 |some x=>if z1cb P t then some (.val (.ifc t x),h) else none
 |none=>none
def zf3(ρ:z1be)(h:AHeap)(fn:Fn)(first captured:Array Operand):z8a:=
 match fn with
 | .func f=>match z286 ρ first.toList,z286 ρ captured.toList with
  |some a,some b=>some (.val (.fn f a b),h)
  |_,_=>none
 |_=>none
def z11f(P:Program)(h:AHeap)(t:TypeId):Option AV→Option AV→z8a
 |some (.int _ (.ofNat n)),some (.int _ (.ofNat m))=>match elemOf P t with
  |some e=>match z176 P e with
   |some z=>if Nat.ble n m=true∧zc9 P e m=true then z83 h e (List.replicate m z.cells).flatten n (P.cellsOf e) else none
   |none=>none
  |none=>none
 |_,_=>none
def z3af(ρ:z1be):Option Operand→Option (Option AV)
 |none=>some none
 |some o=>match ρ o with
  |some v=>some (some v)
  |none=>none
def z88(x:Option AV)(dflt:Nat):Option Nat:=match x with
 |none=>some dflt
 |some (.int _ (.ofNat n))=>some n
 |_=>none
def z20f(P:Program)(h:AHeap)(t:TypeId)(n v:Nat):Option Nat→Option Nat→z8a
 |some l,some r=>match P.underlying t with
  |some .string=>if Nat.ble l r=true∧Nat.ble r n=true then some (.val (.str (r - l) (v/256 ^ l%256 ^ (r - l))),h) else none
  |_=>none
 |_,_=>none
def z18f(P:Program)(h:AHeap)(t:TypeId)(b o m sz:Nat):Option Nat→Option Nat→z8a
 |some l,some r=>match elemOf P t with
  | some e => if Nat.ble l r = true ∧ Nat.ble r m = true ∧ sz = P.cellsOf e ∧ (P.info? e).isSome then
    some (.val (if Nat.beq l m=true∧Nat.blt 0 l=true then .esl else .sl b (o+l*sz) (r - l) sz),h) else none
  |_=>none
 |_,_=>none
def z16b(P:Program)(h:AHeap)(t:TypeId)(x:AV):Option Nat→Option Nat→z8a
 |some 0,some 0=>match elemOf P t with
  |some e=>if (P.info? e).isSome then some (.val x,h) else none
  |none=>none
 |_,_=>none
def z42b(h:AHeap)(b o n sz:Nat):Option Nat→Option Nat→z8a
 |some l,some r=>match h.get b with
  | some (.row N _ _) => if Nat.ble l r = true ∧ Nat.ble r n = true ∧ Nat.ble (o + n * sz) N = true then
    some (.val (if Nat.beq l n=true∧Nat.blt 0 l=true then .esl else .sl b (o+l*sz) (r - l) sz),h) else none
  |_=>none
 |_,_=>none
def z90(P:Program)(h:AHeap)(t:TypeId)(x:AV)(lo hi:Option AV):z8a:=
 match x with
 | .ptr b o=>match P.underlying t with
  |some (.array n e)=>if (P.info? e).isSome then z42b h b o n (P.cellsOf e) (z88 lo 0) (z88 hi n) else none
  |_=>none
 | .str n v=>z20f P h t n v (z88 lo 0) (z88 hi n)
 | .sl b o m sz=>z18f P h t b o m sz (z88 lo 0) (z88 hi m)
 | .nsl=>z16b P h t .nsl (z88 lo 0) (z88 hi 0)
 | .esl=>z16b P h t .esl (z88 lo 0) (z88 hi 0)
 |_=>none
def z210(P:Program)(h:AHeap)(t:TypeId)(b o m sz:Nat):Option Nat→Option Nat→Option Nat→z8a
 |some l,some r,some k=>match elemOf P t with
  | some e => if Nat.ble l r = true ∧ Nat.ble r k = true ∧ Nat.ble k m = true ∧ sz = P.cellsOf e ∧ (P.info? e).isSome then
    some (.val (if Nat.beq l k=true∧Nat.blt 0 l=true then .esl else .sl b (o+l*sz) (r - l) sz),h) else none
  |_=>none
 |_,_,_=>none
def z248(P:Program)(h:AHeap)(t:TypeId)(x:AV)(lo hi mx:Option AV):z8a:=match hi with
 |none=>none
 |some _=>match mx with
  |none=>none
  |some _=>match x with
   | .sl b o m sz=>z210 P h t b o m sz (z88 lo 0) (z88 hi m) (z88 mx m)
   |_=>none
def z192(P:Program)(ρ:z1be)(h:AHeap)(t:TypeId)(x:Operand)(lo hi mx:Option Operand):z8a:=
 match mx with
 |some q=>match ρ x,z3af ρ lo,z3af ρ hi,z3af ρ (some q) with
  |some x,some lo,some hi,some mx=>z248 P h t x lo hi mx
  |_,_,_,_=>none
 |none=>match ρ x,z3af ρ lo,z3af ρ hi with
  |some x,some lo,some hi=>z90 P h t x lo hi
  |_,_,_=>none
def z6d(P:Program)(h:AHeap)(s:TypeId)(f:Nat):Option AV→z8a
 |some (.ptr b o)=>match P.underlying s with
  |some (.struct fs)=>match fs[f]? with
   |some f=>if Nat.blt 0 (P.cellsOf f.type)=true then some (.val (.ptr b (o+f.offset)),h) else none
   |none=>none
  |_=>none
 |some (.gptr b o)=>match P.underlying s with
  |some (.struct fs)=>match fs[f]? with
   |some f=>if Nat.blt 0 (P.cellsOf f.type)=true then some (.val (.gptr b (o+f.offset)),h) else none
   |none=>none
  |_=>none
 |_=>none
def z195(P:Program)(h:AHeap)(t:TypeId)(f:Nat):Option AV→z8a
 |some (.agg cs)=>match P.underlying t with
  |some (.struct fs)=>match fs[f]? with
   |some f=>z1a5 h (z1f8 P f.type cs f.offset)
   |none=>none
  |_=>none
 |_=>none
def z4c(P:Program)(h:AHeap)(t:TypeId):Option AV→Option AV→z8a
 |some (.ptr b o),some (.int _ (.ofNat i))=>match P.underlying t with
  |some (.array n e)=>if Nat.blt i n=true∧(P.info? e).isSome then some (.val (.ptr b (o+i*P.cellsOf e)),h) else none
  |_=>none
 |some (.gptr b o),some (.int _ (.ofNat i))=>match P.underlying t with
  |some (.array n e)=>if Nat.blt i n=true∧(P.info? e).isSome then some (.val (.gptr b (o+i*P.cellsOf e)),h) else none
  |_=>none
 |some (.sl b o n _),some (.int _ (.ofNat i))=>match elemOf P t with
  |some e=>if Nat.blt i n=true∧(P.info? e).isSome then some (.val (.ptr b (o+i*P.cellsOf e)),h) else none
  |_=>none
 |_,_=>none
def z160(P:Program)(h:AHeap)(t:TypeId):Option AV→Option AV→z8a
 |some (.agg cs),some (.int _ (.ofNat i))=>match P.underlying t with
  |some (.array n e)=>if Nat.blt i n=true then z1a5 h (z1f8 P e cs (i*P.cellsOf e)) else none
  |_=>none
 |some (.str n v),some (.int _ (.ofNat i))=>match P.underlying t with
  |some .string=>if Nat.blt i n=true then some (.val (.int .u8 ((v/256 ^ i%256:Nat):Int)),h) else none
  |_=>none
 |_,_=>none
def z1d0(h:AHeap)(t u:TypeId)(x:AV)(ok:Bool):z8a:=
 if t=u then some (.val (if ok then .tup [x,.bool true] else x),h) else none
def z197(P:Program)(h:AHeap)(t:TypeId)(ok:Bool):Option AV→z8a
 |some (.ifc u x)=>if z1cb P t then z1d0 h t u x ok else none
 |_=>none
def z95(h:AHeap)(i:Nat):Option AV→z8a
 |some (.tup l)=>z1a5 h l[i]?
 |_=>none
def z164(P:Program)(f:FuncId):Bool:=match P.funcs[f]? with
 |some fn=>fn.body.isSome&& !(fn.name == "runtime.NumGoroutine")
 |none=>false
def z1ce(c:Nat):Nat→Nat→Nat→Option Nat
 |0,_,_=>none
 |n+1,v,i=>match Nat.beq (v%256) c with
  |true=>some i
  |false=>z1ce c n (v/256) (i+1)
def isRow(rows:List (String×(Array Value→Sem Value)))(i:Nat)(name:String):Bool:=match rows[i]? with
 |some (n,_)=>n == name
 |none=>false
def externV(h:AHeap)(fn:Func):List AV→z8a
 |[x]=>if isRow Extern.AbiNoEscape.rows 0 fn.name=true then some (.val x,h) else none
 | [.str n v, .int .u8 (.ofNat c)] => if isRow Extern.BytealgIndexByte.rows 1 fn.name = true ∧ Nat.blt c 256 = true then match z1ce c n v 0 with
   |some i=>some (.val (.int .i64 (i:Int)),h)
   |none=>some (.val (.int .i64 (-1)),h)
  else none
 |_=>none
def z1ba(name:String):Bool:=match Extern.BytealgMakeNoZero.typedRows with
 |(n,_)::_=>n == name
 |[]=>false
def makeZ(P:Program)(h:AHeap)(fn:Func):List AV→z8a
 |[.int .i64 (.ofNat n)]=>match fn.resultTypes[0]? with
  |some t=>match elemOf P t with
   |some e=>if Nat.ble n 1000000000=true∧zbf e h.ex=false then some (.val (.sl h.next 0 n 1),h.new (zb0 [] e)) else none
   |none=>none
  |none=>none
 |_=>none
def z163(name:String):Bool:=isRow Extern.MapsClone.rows 0 name
def cloneM(h:AHeap):List AV→z8a
 |[.ifc t (.mp b)]=>match h.get b with
  |some (.map es)=>some (.val (.ifc t (.mp h.next)),h.new (.map es))
  |_=>none
 |_=>none
def z25b(P:Program)(h:AHeap)(f:FuncId)(args:List AV):z8a:=match P.funcs[f]? with
 |some fn=>if fn.body.isNone=true∧(fn.name == "runtime.NumGoroutine")=false∧(Extern.findNext fn).isNone=true then (if z1ba fn.name=true then makeZ P h fn args else if z163 fn.name=true then cloneM h args else none) else none
 |none=>none
def isMakeF(P:Program)(f:FuncId):Bool:=match P.funcs[f]? with
 |some fn=>z1ba fn.name||z163 fn.name
 |none=>false
def z2c6(P:Program)(h:AHeap)(f:FuncId)(args:List AV):z8a:=match P.funcs[f]? with
 |some fn=>if fn.body.isNone=true∧(fn.name == "runtime.NumGoroutine")=false∧(Extern.findNext fn).isNone=true then externV h fn args else none
 |none=>none
def z423(h:AHeap)(args:List AV)(b:Nat):z8a:=match h.get b with
 |some (.obj (.loop r))=>if Nat.beq args.length r.ps.size=true then some (.round b args,h) else none
 |_=>none
def callV(P:Program)(h:AHeap)(args:List AV):Option AV→z8a
 |some (.fn f a b)=>if z164 P f then some (.call f (a++args++b),h) else if isMakeF P f then z25b P h f (a++args++b) else z2c6 P h f (a++args++b)
 |some (.yld b)=>z423 h args b
 |_=>none
def z266(P:Program)(ρ:z1be)(h:AHeap)(c:Call):z8a:=match z286 ρ c.args.toList with
 |some args=>match c.callee with
  | .builtin b=>z10f P b c.argTypes args h
  | .invoke _ _=>none
  | .value f=>callV P h args (ρ f)
 |none=>none
def deferV(P:Program)(h:AHeap)(args:List AV):Option AV→z8a
 |some (.fn f a b)=>if z164 P f then some (.defer f (a++args) b,h) else none
 |_=>none
def z355(P:Program)(ρ:z1be)(h:AHeap)(c:Call):z8a:=match z286 ρ c.args.toList with
 |some args=>match c.callee with
  | .value f=>deferV P h args (ρ f)
  |_=>none
 |none=>none
def z2ae(h:AHeap):Option AV→z8a
 |some (.ifc t v)=>some (.panic (.ifc t v),h)
 |_=>none
def z3b1(h:AHeap)(c a b:Option AV):z8a:=match c with
 |some (.bool true)=>z1a5 h a
 |some (.bool false)=>z1a5 h b
 |_=>none
abbrev OpT:=Program→z1be→AHeap→z8a
def z413:Operand→OpT:=fun x _ ρ h=>z1a5 h (ρ x)
def z2ce:Operand→OpT:=fun x _ ρ h=>z1a5 h (ρ x)
def z412:Operand→Operand→Operand→OpT:=fun c a b _ ρ h=>z3b1 h (ρ c) (ρ a) (ρ b)
def z456:TypeId→OpT:=fun e P _ h=>zd9 h e (z176 P e)
def do_box:TypeId→Operand→OpT:=fun e x _ ρ h=>zd9 h e (ρ x)
def z455:TypeId→Array (Nat×Operand)→OpT:=fun t parts P ρ h=>z196 P ρ h t parts
def z22c:TypeId→Nat→Array (Nat×Operand)→OpT:=fun t len parts P ρ h=>z16c P ρ h t len parts
def z3cf:TypeId→Operand→Operand→Operand→OpT:=fun t m k x P ρ h=>z193 P h t (ρ m) (ρ k) (ρ x)
def do_load:TypeId→Operand→OpT:=fun t a P ρ h=>za4 P h t (ρ a)
def z450:TypeId→Operand→Operand→OpT:=fun t a x P ρ h=>z252 P h t (ρ a) (ρ x)
def no_ready:Nat→OpT:=fun _ _ _ _=>none
def no_waits:Nat→OpT:=fun _ _ _ _=>none
def z2cc:Operand→OpT:=fun x _ ρ h=>z3b2 h (ρ x)
def z36b:BinOp→TypeId→Operand→Operand→TypeId→OpT:=fun op t x y _ P ρ h=>z21c P h op t (z141 x||z141 y) (ρ x) (ρ y)
def do_unOp:UnOp→TypeId→Operand→OpT:=fun op _ x _ ρ h=>opUn h op (ρ x)
def z321:TypeId→TypeId→Operand→OpT:=fun s d x P ρ h=>z7b P h s d (ρ x)
def z1ae:TypeId→Operand→OpT:=fun _ _ _ _ _=>none
def z1a9:TypeId→Operand→OpT:=fun t x P ρ h=>z1f9 P h t (ρ x)
def z2cd:Fn→Array Operand→Array Operand→OpT:=fun fn first captured _ ρ h=>zf3 ρ h fn first captured
def z489:TypeId→Option Operand→OpT:=fun _ r _ _ h=>z2af h r
def z3fe:TypeId→Operand→OpT:=fun _ _ _ _ _=>none
def z270:TypeId→Operand→Operand→OpT:=fun t l c P ρ h=>z11f P h t (ρ l) (ρ c)
def z451:TypeId→Operand→Option Operand→Option Operand→Option Operand→OpT:=fun t x lo hi mx P ρ h=>z192 P ρ h t x lo hi mx
def z272:TypeId→Operand→Nat→OpT:=fun s x f P ρ h=>z6d P h s f (ρ x)
def z453:TypeId→Operand→Nat→OpT:=fun t x f P ρ h=>z195 P h t f (ρ x)
def z271:TypeId→Operand→Operand→OpT:=fun t x i P ρ h=>z4c P h t (ρ x) (ρ i)
def z452:TypeId→Operand→Operand→OpT:=fun t x i P ρ h=>z160 P h t (ρ x) (ρ i)
def z3ce:TypeId→Operand→Operand→Bool→OpT:=fun t x i ok P ρ h=>z194 P h t ok (ρ x) (ρ i)
def z26f:TypeId→Operand→Operand→Operand→OpT:=fun t m k x P ρ h=>z193 P h t (ρ m) (ρ k) (ρ x)
def z3fd:TypeId→Operand→Operand→OpT:=fun _ _ _ _ _ _=>none
def z357:TypeId→Operand→Operand→Operand→OpT:=fun _ _ _ _ _ _ _=>none
def no_range:TypeId→Operand→OpT:=fun _ _ _ _ _=>none
def no_next:Operand→Bool→OpT:=fun _ _ _ _ _=>none
def no_entry:Operand→OpT:=fun _ _ _ _=>none
def z22b:Operand→TypeId→TypeId→Bool→OpT:=fun x _ t ok P ρ h=>z197 P h t ok (ρ x)
def z320:Operand→Nat→OpT:=fun t i _ ρ h=>z95 h i (ρ t)
def do_call:Call→OpT:=fun c P ρ h=>z266 P ρ h c
def no_go:Call→OpT:=fun _ _ _ _=>none
def z454:Call→OpT:=fun c P ρ h=>z355 P ρ h c
def z36a:Operand→OpT:=fun x _ ρ h=>z2ae h (ρ x)
def no_send:Operand→Operand→OpT:=fun _ _ _ _ _=>none
def no_recv:TypeId→Operand→Bool→OpT:=fun _ _ _ _ _ _=>none
def no_select:Array SelectCase→Bool→OpT:=fun _ _ _ _ _=>none
def z251(o:Op):OpT:=Op.casesOn o z413 z2ce z412 z456 do_box z455 z22c z3cf do_load z450 no_ready no_waits z2cc z36b do_unOp z321 z1ae z1a9 z2cd z489 z3fe z270 z451 z272 z453 z271 z452 z3ce z26f z3fd z357 no_range no_next no_entry z22b z320 do_call no_go z454 z36a no_send no_recv no_select
def opA(P:Program)(ρ:z1be)(o:Oper)(h:AHeap):z8a:=z251 o.op P ρ h
structure AAct where
 tmps:T AV
 defers:List (FuncId×List AV×List AV)
def AAct.eval(a:AAct):Operand→Option AV
 | .tmp t=>a.tmps.get t
 | .const v=>zfb v
 | .global g=>some (.gptr g 0)
 | .func f=>some (.fn f [] [])
def AAct.put(a:AAct):Option Tmp→AV→AAct
 |some d,v=>⟨a.tmps.set d v,a.defers⟩
 |none,_=>a
inductive AExit where
 |normal
 |exit (id:Nat)
 |goto (l:Nat)
 |ret
 |panic (v:AV)
inductive ARes where
 |ret (v:AV)
 |panic (v:AV)
abbrev z10:=FuncId→List AV→AHeap→Option (ARes×AHeap)
abbrev z82:=Option (AExit×AAct×AHeap)
def z139(N:Nat)(o:Oper):Bool:=match o.dst with
 |some d=>Nat.blt d N
 |none=>true
def z3fb(N:Nat):List Oper→Bool
 |[]=>true
 |o::l=>z139 N o&&z3fb N l
def z41(ops:Array Oper)(tm:Nat→Option AV):Option (Nat×Bool)→Option Bool
 |none=>some true
 |some (j,want)=>match ops[j]? with
  |some o=>match o.dst with
   |some d=>match tm d with
    |some (.bool b)=>some (b == want)
    |some _=>some false
    |none=>none
   |none=>some false
  |none=>some false
inductive AStep where
 |go (a:AAct) (h:AHeap)
 |panic (v:AV) (h:AHeap)
def z39(a:AAct)(d:Option Tmp)(v:AV)(h:AHeap):Option AStep:=some (.go (a.put d v) h)
def z155(a:AAct)(d:Option Tmp):Option (ARes×AHeap)→Option AStep
 |some (.ret v,h)=>z39 a d v h
 |some (.panic v,h)=>some (.panic v h)
 |none=>none
def ze7(call:z10)(a:AAct)(d:Option Tmp):z8a→Option AStep
 |some (.val v,h)=>z39 a d v h
 |some (.skip,h)=>z39 a d (.tup []) h
 |some (.call f args,h)=>z155 a d (call f args h)
 |some (.panic v,h)=>some (.panic v h)
 |some (.defer f args cap,h)=>z39 ⟨a.tmps,(f,args,cap)::a.defers⟩ d (.tup []) h
 |some (.round _ _,_)=>none
 |none=>none
def z136(P:Program)(call:z10)(ops:Array Oper)(o:Oper)(a:AAct)(h:AHeap):Option AStep:=
 match z41 ops a.tmps.get o.guard with
 |some true=>ze7 call a o.dst (opA P a.eval o h)
 |some false=>z39 a o.dst (.tup []) h
 |none=>none
def aNext(ih:AAct→AHeap→z82)(a:AAct):Option AStep→z82
 |some (.go a h)=>ih a h
 |some (.panic v h)=>some (.panic v,a,h)
 |none=>none
def aOps(P:Program)(call:z10)(ops:Array Oper)(l:List Oper):AAct→AHeap→z82:=
 @List.rec Oper (fun _=>AAct→AHeap→z82) (fun a h=>some (.normal,a,h)) (fun o _ ih a h=>aNext ih a (z136 P call ops o a h)) l
def aRound(ih:AAct→AHeap→z82):z82→z82
 |some (.normal,a,h)=>ih a h
 |r=>r
def aLoop(f:AAct→AHeap→z82)(n:Nat):AAct→AHeap→z82:=
 @Nat.rec (fun _=>AAct→AHeap→z82) (fun _ _=>none) (fun _ ih a h=>aRound ih (f a h)) n
def aThen(r:z82)(k:AAct→AHeap→z82):z82:=match r with
 |some (.normal,a,h)=>k a h
 |r=>r
def aBlock(id:Nat)(r:z82):z82:=match r with
 |some (.exit id',a,h)=>if Nat.beq id' id=true then some (.normal,a,h) else some (.exit id',a,h)
 |r=>r
def aCond(c:Option AV)(x y:z82):z82:=match c with
 |some (.bool true)=>x
 |some (.bool false)=>y
 |_=>none
def z2bd:Op→Bool
 | .load ..=>true
 | .lookup ..=>true
 |_=>false
def z7e(P:Program):Op→Nat
 | .move _| .assign _| .pick ..| .build ..| .nilCheck _| .unOp ..| .makeInterface ..| .makeFunc ..| .fieldAddr ..| .field ..| .indexAddr ..| .index ..| .typeAssert ..| .extract ..=>0
 | .binOp _ t x y _=>match z141 x||z141 y with
  |true=>0
  |false=>match P.underlying t with
   |some (.pointer _)=>3
   |_=>0
 | .slice t _ _ _ _=>match P.underlying t with
  |some (.array _ _)=>3
  |_=>0
 | .load ..=>1
 | .lookup ..=>1
 | .alloc _| .box ..=>2
 | .convert s d _=>match P.underlying s with
  |some (.slice _)|some .unsafePointer=>3
  |_=>match P.underlying d with
   |some (.slice _)|some .unsafePointer=>3
   |_=>0
 | .call c=>match c.callee with
  | .builtin .len=>match (c.argTypes[0]?).bind P.underlying with
   |some (.map _ _)|none=>3
   |_=>0
  | .builtin .max| .builtin .min=>0
  |_=>3
 |_=>3
def z40f(o:Oper):List Nat:=(o.after.toList.filter (Region.binds .any)).map (·.on)
def z46(ops:Array Oper)(i:Nat):List Nat:=match ops[i]? with
 |some o=>z40f o
 |none=>[]
def z19e(ops:Array Oper)(i:Nat):Option Nat:=match ops[i]? with
 |some o=>o.dst
 |none=>none
def z297:List Operand→List Nat
 |[]=>[]
 | .tmp t::l=>t::z297 l
 |_::l=>z297 l
def z1cc(ops:Array Oper):Option (Nat×Bool)→List Nat
 |none=>[]
 |some (j,_)=>match z19e ops j with
  |some d=>[d]
  |none=>[]
def z138(ops:Array Oper)(i:Nat):List Nat:=match ops[i]? with
 |some o=>z1cc ops o.guard++z297 o.op.operands.toList
 |none=>[]
def allB(f:Nat→Bool):List Nat→Bool
 |[]=>true
 |j::l=>f j&&allB f l
def subB(l m:List Nat):Bool:=allB (fun i=>zbf i m) l
def z477(ops:Array Oper)(i j:Nat):Bool:=match z19e ops j with
 |none=>true
 |some t=>(!zbf t (z138 ops i)||zbf j (z46 ops i)||zbf i (z46 ops j))&&(Nat.beq i j|| !(z19e ops i == some t))
def z1a6(ops:Array Oper):Bool:=allB (fun i=>allB (z477 ops i) (List.range ops.size)) (List.range ops.size)
def z460(ops:Array Oper)(j:Nat):Bool:=match z19e ops j with
 |none=>false
 |some t=>(List.range ops.size).any fun i=>zbf t (z138 ops i)&& !zbf j (z46 ops i)
def z1b8(P:Program)(ops:Array Oper)(i:Nat)(o:Op):Nat:=match z460 ops i with
 |true=>3
 |false=>z7e P o
def z1b9(P:Program)(ops:Array Oper)(i:Nat):Nat:=match ops[i]? with
 |some o=>z1b8 P ops i o.op
 |none=>3
def onlyB(ops:Array Oper)(done:List Nat)(i j:Nat):Bool:=zbf j done|| !subB (z46 ops j) done||Nat.beq j i
def z1e5(P:Program)(ops:Array Oper):List Nat→List Nat→Bool
 |done,[]=>allB (fun i=>zbf i done) (List.range ops.size)
 |done,i::l=>Nat.blt i ops.size&& !zbf i done&&subB (z46 ops i) done&&(Nat.blt (z1b9 P ops i) 3||allB (onlyB ops done i) (List.range ops.size))&&z1e5 P ops (i::done) l
def findB(f:Nat→Bool):List Nat→Option Nat
 |[]=>none
 |i::l=>match f i with
  |true=>some i
  |false=>findB f l
def nextOf(P:Program)(ops:Array Oper)(done:List Nat):Option Nat:=
 match findB (fun i=> !zbf i done&&subB (z46 ops i) done&&Nat.blt (z1b9 P ops i) 3) (List.range ops.size) with
 |some i=>some i
 |none=>findB (fun i=> !zbf i done&&subB (z46 ops i) done) (List.range ops.size)
def mkPlan(P:Program)(ops:Array Oper):Nat→List Nat→List Nat
 |0,_=>[]
 |n+1,done=>match nextOf P ops done with
  |some i=>i::mkPlan P ops n (i::done)
  |none=>[]
def z2ab(P:Program)(ops:Array Oper):Option (List Nat):=
 if z1a6 ops&&z1e5 P ops [] (mkPlan P ops ops.size []) then some (mkPlan P ops ops.size []) else none
def ancOf(ops:Array Oper):Nat→Nat→Nat→Bool
 |0,_,_=>false
 |n+1,i,j=>zbf j (z46 ops i)||(z46 ops i).any fun k=>ancOf ops n k j
mutual
def AV.same:AV→AV→Bool
 | .bool a,.bool b=>a == b
 | .int k a,.int l b=>(k == l)&&(a == b)
 | .str a b,.str c d=>Nat.beq a c&&Nat.beq b d
 | .ptr a b,.ptr c d=>Nat.beq a c&&Nat.beq b d
 | .nilp,.nilp=>true
 | .sl a b c d,.sl e f g h=>Nat.beq a e&&Nat.beq b f&&Nat.beq c g&&Nat.beq d h
 | .nsl,.nsl=>true
 | .esl,.esl=>true
 | .mp a,.mp b=>Nat.beq a b
 | .nmp,.nmp=>true
 | .fn f a b,.fn g c d=>Nat.beq f g&&y1c a c&&y1c b d
 | .nfn,.nfn=>true
 | .ifc t v,.ifc u w=>Nat.beq t u&&AV.same v w
 | .nifc,.nifc=>true
 | .agg a,.agg b=>y1c a b
 | .tup a,.tup b=>y1c a b
 | .yld a,.yld b=>Nat.beq a b
 | .mrk a,.mrk b=>Nat.beq a b
 | .gptr a b,.gptr c d=>Nat.beq a c&&Nat.beq b d
 |_,_=>false
def y1c:List AV→List AV→Bool
 |[],[]=>true
 |a::l,b::m=>AV.same a b&&y1c l m
 |_,_=>false
end
structure Rec where
 i:Nat
 o:Oper
 id:Nat
 e:TypeId
 cells:List AV
def z24a:Option AV→Option AV→Bool
 |some a,some b=>AV.same a b
 |_,_=>false
def z2a2:Option (List AV)→List AV→Bool
 |some a,b=>y1c a b
 |_,_=>false
def z49a:z8a→Option AV
 |some (.val v,_)=>some v
 |_=>none
def tmpO(a:AAct):Option Tmp→Option AV
 |some d=>a.tmps.get d
 |none=>none
def z2ee(P:Program)(ops:Array Oper)(e:Nat)(a:AAct)(h:AHeap)(r:Rec):Bool:=
 ancOf ops ops.size e r.i||match z2bd r.o.op with
  |true=>z24a (z49a (opA P a.eval r.o h)) (tmpO a r.o.dst)
  |false=>match h.get r.id with
   |some (.row n t e)=>Nat.beq n r.cells.length&&Nat.beq e r.e&&z2a2 (t.take 0 n) r.cells
   |_=>false
def z1aa(f:Rec→Bool):List Rec→Bool
 |[]=>true
 |j::l=>f j&&z1aa f l
def z202:Op→TypeId
 | .alloc e=>e
 | .box e _=>e
 |_=>0
def ze6(P:Program)(a:AAct):Op→List AV
 | .alloc e=>match z176 P e with
  |some z=>z.cells
  |none=>[]
 | .box _ x=>match a.eval x with
  |some z=>z.cells
  |none=>[]
 |_=>[]
def dGo(P:Program)(call:z10)(ops:Array Oper):List Nat→AAct→AHeap→List Rec→z82
 |[],a,h,_=>some (.normal,a,h)
 |i::l,a,h,rs=>match ops[i]? with
  |none=>none
  |some o=>match z136 P call ops o a h with
   |some (.go a' h')=>match z1b8 P ops i o.op with
    |0=>dGo P call ops l a' h' rs
    |3=>if z1aa (z2ee P ops i a' h') rs=true then dGo P call ops l a' h' rs else none
    |_=>match z41 ops a.tmps.get o.guard with
     |some true=>dGo P call ops l a' h' (⟨i,o,h.next,z202 o.op,ze6 P a o.op⟩::rs)
     |_=>dGo P call ops l a' h' rs
   |_=>none
def z374(P:Program)(call:z10)(ops:Array Oper)(a:AAct)(h:AHeap):z82:=match z2ab P ops with
 |some p=>dGo P call ops p a h []
 |none=>none
def aRegion(P:Program)(call:z10)(N:Nat)(ops:Array Oper)(a:AAct)(h:AHeap)(d:Bool):z82:=match z3fb N ops.toList with
 |true=>match d with
  |true=>z374 P call ops a h
  |false=>aOps P call ops ops.toList a h
 |false=>none
abbrev ScopeK:=Code→Code→AAct→AHeap→z82
def aScope(K:ScopeK)(c:Code):z82→z82
 |some (.goto l,a,h)=>match findLabel c l with
  |some rest=>K rest c a h
  |none=>some (.goto l,a,h)
 |r=>r
def aCodeS(P:Program)(call:z10)(lf N:Nat)(K:ScopeK)(c:Code):AAct→AHeap→z82:=
 @Code.rec (fun _ => AAct → AHeap → z82)
  (fun a h=>some (.normal,a,h))
  (fun _ ops d a h=>aRegion P call N ops a h d)
  (fun _ _ ix iy a h=>aThen (ix a h) iy)
  (fun c _ _ ix iy a h=>aCond (a.eval c) (ix a h) (iy a h))
  (fun id _ ic a h=>aBlock id (ic a h))
  (fun _ ic a h=>aLoop ic lf a h)
  (fun _ _ _ _ _ _ _ _=>none)
  (fun id a h=>some (.exit id,a,h))
  (fun c ic a h=>aScope K c (ic a h))
  (fun _ a h=>some (.normal,a,h))
  (fun l a h=>some (.goto l,a,h))
  (fun a h=>some (.ret,a,h))
  (fun _ _ _=>none) c
def aAgain(P:Program)(call:z10)(lf N:Nat):Nat→ScopeK
 |0=>fun _ _ _ _=>none
 |n+1=>fun rest c a h=>aScope (aAgain P call lf N n) c (aCodeS P call lf N (aAgain P call lf N n) rest a h)
def aCode(P:Program)(call:z10)(lf N:Nat)(c:Code):AAct→AHeap→z82:=aCodeS P call lf N (aAgain P call lf N 40) c
def resA(P:Program)(a:AAct)(h:AHeap):ResultVar→Option AV
 | .tmp t=>a.tmps.get t
 | .cell t ty=>match za4 P h ty (a.tmps.get t) with
  |some (.val v,_)=>some v
  |_=>none
def z159(P:Program)(a:AAct)(h:AHeap):List ResultVar→Option (List AV)
 |[]=>some []
 |r::l=>match resA P a h r,z159 P a h l with
  |some v,some vs=>some (v::vs)
  |_,_=>none
def z3a6(h:AHeap):Option (List AV)→Option (ARes×AHeap)
 |some [v]=>some (.ret v,h)
 |some l=>some (.ret (.tup l),h)
 |none=>none
def isRecover:Op→Bool
 | .call c=>match c.callee with
  | .builtin .recover=>c.args.isEmpty
  |_=>false
 |_=>false
def noCall:z10:=fun _ _ _=>none
def dOps(P:Program)(ops:Array Oper):List Oper→AAct→Option AV→AHeap→Option (AAct×Option AV×AHeap)
 |[],a,u,h=>some (a,u,h)
 |o::rest,a,u,h=>match o.guard with
  |some _=>none
  |none=>match isRecover o.op with
   |true=>match z39 a o.dst (u.getD .nifc) h with
    |some (.go a h)=>dOps P ops rest a none h
    |_=>none
   |false=>match z136 P noCall ops o a h with
    |some (.go a h)=>dOps P ops rest a u h
    |_=>none
def dLeave(P:Program)(fn:Func)(u:Option AV):z82→Option (Option AV×AHeap)
 |some (.normal,a,h)=>match a.defers,z159 P a h fn.results.toList with
  |[],some _=>some (u,h)
  |_,_=>none
 |some (.ret,a,h)=>match a.defers,z159 P a h fn.results.toList with
  |[],some _=>some (u,h)
  |_,_=>none
 |_=>none
def dBody(P:Program)(call:z10)(lf:Nat)(fn:Func)(a:AAct)(u:Option AV)(h:AHeap):Code→Option (Option AV×AHeap)
 | .seq (.region _ ops false) rest=>match z3fb fn.ntmps ops.toList,dOps P ops ops.toList a u h with
  |true,some (a,u,h)=>dLeave P fn u (aCode P call lf fn.ntmps rest a h)
  |_,_=>none
 |_=>none
def callD(P:Program)(call:z10)(lf:Nat)(f:FuncId)(args:List AV)(u:Option AV)(h:AHeap):Option (Option AV×AHeap):=
 match P.funcs[f]? with
 |none=>none
 |some fn=>match fn.body with
  |none=>none
  |some c=>if Nat.ble args.length fn.ntmps=true∧z164 P f=true then dBody P call lf fn ⟨T.put .e 0 args,[]⟩ u h c else none
def isMrk:List AV→Bool
 | .mrk _::_=>true
 |_=>false
def runD(P:Program)(call:z10)(lf:Nat)(fn:Func)(a:AAct):List (FuncId×List AV×List AV)→Option AV→AHeap→Option (ARes×AHeap)
 |[],none,h=>z3a6 h (z159 P a h fn.results.toList)
 |[],some v,h=>some (.panic v,h)
 |(f,args,cap)::ds,u,h=>match isMrk cap with
  |true=>none
  |false=>match callD P call lf f (args++cap) u h with
   |some (u,h)=>runD P call lf fn a ds u h
   |none=>none
def leaveA(P:Program)(call:z10)(lf:Nat)(fn:Func):z82→Option (ARes×AHeap)
 |some (.normal,a,h)=>runD P call lf fn a a.defers none h
 |some (.ret,a,h)=>runD P call lf fn a a.defers none h
 |some (.panic v,a,h)=>runD P call lf fn a a.defers (some v) h
 |_=>none
def bodyA(P:Program)(call:z10)(lf:Nat)(f:FuncId)(args:List AV)(h:AHeap):Option (ARes×AHeap):=
 match P.funcs[f]? with
 |none=>none
 |some fn=>match fn.body with
  |none=>none
  |some c=>if Nat.ble args.length fn.ntmps=true then leaveA P call lf fn (aCode P call lf fn.ntmps c ⟨T.put .e 0 args,[]⟩ h) else none
end
noncomputable section
def Path.num:Path→Nat
 | .z=>0
 | .a p=>4*p.num+1
 | .b p=>4*p.num+2
 | .c p=>4*p.num+3
 | .d p=>4*p.num+4
theorem z3b4:∀(f i:Nat),i≤f→(z352 f i).num=i
 |0,i,h=>by simp[z352,Path.num];omega
 |f+1,0,_=>by simp[z352,Path.num]
 |f+1,i+1,h=>by
  have ih:=z3b4 f (i/4) (by omega);have h4:i%4=0∨i%4=1∨i%4=2∨i%4=3:=by omega
  rcases h4 with e|e|e|e<;>simp only[z352,e,Path.num,ih]<;>omega
theorem z310(i:Nat):(z3ae i).num=i:=z3b4 i i (Nat.le_refl i)
theorem pathOf_ne{i j:Nat}(h:i≠j):z3ae i≠z3ae j:=fun e=>h (by rw[←z310 i, ←z310 j,e])
theorem y39{α:Type}(p:Path):∀(t:T α) (x:α),y2a p (T.setP p t x)=some x:=by
 induction p with
 |z=>intro t x;cases t<;>rfl
 |a p ih=>intro t x;cases t<;>exact ih _ x
 |b p ih=>intro t x;cases t<;>exact ih _ x
 |c p ih=>intro t x;cases t<;>exact ih _ x
 |d p ih=>intro t x;cases t<;>exact ih _ x
theorem y23{α:Type}(p:Path):y2a p (.e:T α)=none:=by cases p<;>rfl
theorem y33{α:Type}(p:Path):∀(q:Path) (t:T α) (x:α),p≠q→y2a q (T.setP p t x)=y2a q t:=by
 induction p with
 |z=>intro q t x h;cases q<;>cases t<;>first|exact absurd rfl h|rfl|(show y2a _ (.e:T α)=none;exact y23 _)
 |a p ih=>intro q t x h;cases q<;>cases t<;>first|rfl|(rename_i q;show y2a q (T.setP p .e x)=none;rw[ih q .e x (fun e=>h (by rw[e]))];exact y23 q)|(exact ih _ _ x (fun e=>h (by rw[e])))|(show y2a _ (.e:T α)=none;exact y23 _)
 |b p ih=>intro q t x h;cases q<;>cases t<;>first|rfl|(rename_i q;show y2a q (T.setP p .e x)=none;rw[ih q .e x (fun e=>h (by rw[e]))];exact y23 q)|(exact ih _ _ x (fun e=>h (by rw[e])))|(show y2a _ (.e:T α)=none;exact y23 _)
 |c p ih=>intro q t x h;cases q<;>cases t<;>first|rfl|(rename_i q;show y2a q (T.setP p .e x)=none;rw[ih q .e x (fun e=>h (by rw[e]))];exact y23 q)|(exact ih _ _ x (fun e=>h (by rw[e])))|(show y2a _ (.e:T α)=none;exact y23 _)
 |d p ih=>intro q t x h;cases q<;>cases t<;>first|rfl|(rename_i q;show y2a q (T.setP p .e x)=none;rw[ih q .e x (fun e=>h (by rw[e]))];exact y23 q)|(exact ih _ _ x (fun e=>h (by rw[e])))|(show y2a _ (.e:T α)=none;exact y23 _)
section
variable {α:Type}
theorem y15(t:T α)(i:Nat)(x:α):(t.set i x).get i=some x:=y39 _ _ _
theorem y17(t:T α){i j:Nat}(x:α)(h:i≠j):(t.set i x).get j=t.get j:=y33 _ _ _ _ (pathOf_ne h)
theorem y21(i:Nat):(.e:T α).get i=none:=y23 _
theorem y32(l:List α):∀(t:T α) (i j:Nat),(t.put i l).get j=if i≤j∧j<i+l.length then l[j - i]? else t.get j:=by
 induction l with
 |nil=>intro t i j;simp only[T.put,List.length_nil];rw[if_neg (by omega)]
 |cons x l ih=>
  intro t i j;simp only[T.put,List.length_cons];rw[ih]
  by_cases h1:i+1≤j∧j<i+1+l.length
  ·rw [if_pos h1, if_pos (by omega)]
   have:j - i=(j - (i+1))+1:=by omega
   rw[this,List.getElem?_cons_succ]
  ·rw [if_neg h1]
   by_cases h2:i=j
   ·subst h2;rw[y15,if_pos (by omega)];simp
   ·rw[y17 t x h2,if_neg (by omega)]
theorem y25(t:T α):∀(n i:Nat) (l:List α),t.take i n=some l→l.length=n∧∀k,k<n→t.get (i+k)=l[k]?:=by
 intro n
 induction n with
 |zero=>intro i l h;simp only[T.take,Option.some.injEq] at h;subst h;exact⟨rfl,fun k hk=>by omega⟩
 |succ n ih=>
  intro i l h;simp only[T.take] at h
  split at h
  ·rename_i x l' hx hl
   obtain⟨h1,h2⟩:=ih _ _ hl;simp only[Option.some.injEq] at h;subst h;refine⟨by simp[h1],fun k hk=>?_⟩
   cases k with
   |zero=>simpa using hx
   |succ k=>rw[List.getElem?_cons_succ, ←h2 k (by omega)];congr 1;omega
  ·cases h
end
theorem z40e:enc []=0:=rfl
theorem zb2(b:UInt8)(l:List UInt8):enc (b::l)=b.toNat+256*enc l:=rfl
theorem z49f(b:UInt8):b.toNat<256:=b.toNat_lt
theorem z1cf(a b:List UInt8):enc (a++b)=enc a+256 ^ a.length*enc b:=by
 induction a with
 |nil=>simp[z40e]
 |cons x a ih=>
  rw[List.cons_append,zb2,zb2,ih,List.length_cons,Nat.pow_succ,Nat.mul_add, ←Nat.mul_assoc,Nat.mul_comm 256 (256 ^ a.length)];omega
theorem z44d(a:List UInt8):enc a<256 ^ a.length:=by
 induction a with
 |nil=>simp[z40e]
 |cons x a ih=>
  rw[zb2,List.length_cons,Nat.pow_succ];have:=z49f x;omega
theorem z369(a:List UInt8):∀i,enc (a.drop i)=enc a/256 ^ i:=by
 intro i
 rcases Nat.lt_or_ge a.length i with h|h
 ·rw [List.drop_eq_nil_of_le (by omega), z40e]
  have h1:=z44d a;have h2:256 ^ a.length≤256 ^ i:=Nat.pow_le_pow_right (by decide) (by omega);rw[Nat.div_eq_of_lt (by omega)]
 ·have h1 := z1cf (a.take i) (a.drop i)
  rw[List.take_append_drop] at h1;have hl:(a.take i).length=i:=by simp;omega
  have h2:=z44d (a.take i);rw[hl] at h1 h2;rw[h1,Nat.add_mul_div_left _ _ (Nat.pow_pos (by decide)),Nat.div_eq_of_lt h2,Nat.zero_add]
theorem z44c(a:List UInt8)(i:Nat):enc (a.take i)=enc a%256 ^ i:=by
 rcases Nat.lt_or_ge a.length i with h|h
 ·rw [List.take_of_length_le (by omega)]
  have h1:=z44d a;have h2:256 ^ a.length≤256 ^ i:=Nat.pow_le_pow_right (by decide) (by omega);rw[Nat.mod_eq_of_lt (by omega)]
 ·have h1 := z1cf (a.take i) (a.drop i)
  rw[List.take_append_drop] at h1;have hl:(a.take i).length=i:=by simp;omega
  have h2:=z44d (a.take i);rw[hl] at h1 h2;rw[h1,Nat.add_mul_mod_self_left,Nat.mod_eq_of_lt h2]
theorem enc_get(a:List UInt8)(i:Nat)(h:i<a.length):enc a/256 ^ i%256=(a[i]).toNat:=by
 rw[←z369,List.drop_eq_getElem_cons h,zb2,Nat.add_mul_mod_self_left,Nat.mod_eq_of_lt (z49f _)]
theorem enc_inj:∀(a b:List UInt8),a.length=b.length→enc a=enc b→a=b
 |[],[],_,_=>rfl
 |[],_::_,h,_=>by simp at h
 |_::_,[],h,_=>by simp at h
 |x::a,y::b,h,e=>by
  rw[zb2,zb2] at e;have hx:=z49f x;have hy:=z49f y;have e1:x.toNat=y.toNat:=by omega
  have e2:enc a=enc b:=by omega
  rw[enc_inj a b (by simpa using h) e2,UInt8.toNat_inj.1 e1]
theorem enc_eq(a b:List UInt8):(Nat.beq a.length b.length&&Nat.beq (enc a) (enc b))=(a == b):=by
 by_cases h:a=b
 ·subst h;simp[Nat.beq_refl]
 ·have h1 : (a == b) = false := by simpa using h
  rw[h1];cases hl:Nat.beq a.length b.length with
  |false=>rfl
  |true=>
   have:=Nat.eq_of_beq_eq_true hl;cases he:Nat.beq (enc a) (enc b) with
   |false=>rfl
   |true=>exact absurd (enc_inj a b this (Nat.eq_of_beq_eq_true he)) h
end
noncomputable section
open Go.RowKit
abbrev Map:=List (Option (Nat×Nat×Nat))
def Map.le(m m':Map):Prop:=∀(b:Nat) (p:Nat×Nat×Nat),m[b]? =some (some p)→m'[b]? =some (some p)
theorem Map.le_refl(m:Map):Map.le m m:=fun _ _ h=>h
theorem Map.le_trans{a b c:Map}(h:Map.le a b)(k:Map.le b c):Map.le a c:=fun i p hi=>k i p (h i p hi)
theorem ye(m e:Map):Map.le m (m++e):=fun b p h=>by
 have hb:b<m.length:=(List.getElem?_eq_some_iff.1 h).1;rw[List.getElem?_append_left hb];exact h
theorem y34{m:Map}{k:Nat}(h:m[k]? =some none)(p:Nat×Nat×Nat):Map.le m (m.set k (some p)):=fun b q hb=>by
 by_cases e:k=b
 ·subst e;rw[h] at hb;cases hb
 ·rw[List.getElem?_set_ne e];exact hb
mutual
inductive Rel (m:Map):AV→Value→Prop
 |bool (b:Bool):Rel m (.bool b) (.bool b)
 |int (k:IntKind) (n:Int):Rel m (.int k n) (.int k n)
 |str {n v:Nat} (s:ByteArray) (hn:s.data.toList.length=n) (hv:enc s.data.toList=v):Rel m (.str n v) (.string s)
 |ptr {b o g s z:Nat} (h:m[b]? =some (some (g,s,z))):Rel m (.ptr b o) (.pointer (some ⟨g,s+o,none⟩))
 |nilp:Rel m .nilp (.pointer none)
 |sl {b o n sz cap g s z:Nat} (h:m[b]? =some (some (g,s,z))) (hn:n≤cap) (hz:s+o+cap*sz≤z):Rel m (.sl b o n sz) (.slice (some ⟨g,s+o,none⟩) n cap)
 |nsl:Rel m .nsl (.slice none 0 0)
 |esl (a:Addr) (cap:Nat):Rel m .esl (.slice (some a) 0 cap)
 |mp {b g:Nat} (h:m[b]? =some (some (g,0,0))):Rel m (.mp b) (.map (some g))
 |nmp:Rel m .nmp (.map none)
 |fn {f:FuncId} {l c:List AV} {l' c':List Value} (h:RelL m l l') (k:RelL m c c'):Rel m (.fn f l c) (.func (.func f) ⟨l'⟩ ⟨c'⟩)
 |nfn:Rel m .nfn .nilFunc
 |ifc {t:TypeId} {v:AV} {v':Value} (h:Rel m v v'):Rel m (.ifc t v) (.iface t v')
 |nifc:Rel m .nifc .nilIface
 |agg {l:List AV} {l':List Value} (h:RelL m l l'):Rel m (.agg l) (.agg ⟨l'⟩)
 |tup {l:List AV} {l':List Value} (h:RelL m l l'):Rel m (.tup l) (.tuple ⟨l'⟩)
 |yld {b g:Nat} (h:m[b]? =some (some (g,0,0))):Rel m (.yld b) (.func (.yield g) #[] #[])
 |gptr (g o:Nat):Rel m (.gptr g o) (.pointer (some ⟨g,o,none⟩))
inductive RelL (m:Map):List AV→List Value→Prop
 |nil:RelL m [] []
 |cons {x:AV} {y:Value} {l:List AV} {l':List Value} (h:Rel m x y) (k:RelL m l l'):RelL m (x::l) (y::l')
end
mutual
theorem Rel.mono{m m':Map}(hm:Map.le m m'):∀{x:AV} {y:Value},Rel m x y→Rel m' x y
 |_,_,.bool b=>.bool b
 |_,_,.int k n=>.int k n
 |_,_,.str s hn hv=>.str s hn hv
 |_,_,.ptr h=>.ptr (hm _ _ h)
 |_,_,.nilp=>.nilp
 |_,_,.sl h a b=>.sl (hm _ _ h) a b
 |_,_,.nsl=>.nsl
 |_,_,.esl a c=>.esl a c
 |_,_,.mp h=>.mp (hm _ _ h)
 |_,_,.nmp=>.nmp
 |_,_,.fn h k=>.fn (RelL.mono hm h) (RelL.mono hm k)
 |_,_,.nfn=>.nfn
 |_,_,.ifc h=>.ifc (Rel.mono hm h)
 |_,_,.nifc=>.nifc
 |_,_,.agg h=>.agg (RelL.mono hm h)
 |_,_,.tup h=>.tup (RelL.mono hm h)
 |_,_,.yld h=>.yld (hm _ _ h)
 |_,_,.gptr g o=>.gptr g o
theorem RelL.mono{m m':Map}(hm:Map.le m m'):∀{x:List AV} {y:List Value},RelL m x y→RelL m' x y
 |_,_,.nil=>.nil
 |_,_,.cons h k=>.cons (Rel.mono hm h) (RelL.mono hm k)
end
section
variable {m:Map}
theorem RelL.length{l:List AV}{l':List Value}(h:RelL m l l'):l.length=l'.length:=by
 induction l generalizing l' with
 |nil=>cases h;rfl
 |cons x l ih=>cases h with|cons _ k=>simp[ih k]
theorem RelL.get{l:List AV}{l':List Value}(h:RelL m l l'):∀(i:Nat) (x:AV),l[i]? =some x→∃y,l'[i]? =some y∧Rel m x y:=by
 induction l generalizing l' with
 |nil=>intro i x hx;simp at hx
 |cons x l ih=>
  cases h with
  |cons hx k=>
   intro i u hu
   cases i with
   |zero=>simp at hu;subst hu;exact⟨_,rfl,hx⟩
   |succ i=>simpa using ih k i u (by simpa using hu)
theorem RelL.append{a b:List AV}{a' b':List Value}(h:RelL m a a')(k:RelL m b b'):RelL m (a++b) (a'++b'):=by
 induction a generalizing a' with
 |nil=>cases h;simpa using k
 |cons x a ih=>cases h with|cons hx h=>exact .cons hx (ih h)
theorem RelL.take{a:List AV}{a':List Value}(h:RelL m a a'):∀n,RelL m (a.take n) (a'.take n):=by
 induction a generalizing a' with
 |nil=>intro n;cases h;simpa using RelL.nil
 |cons x a ih=>
  intro n;cases h with
  |cons hx h=>cases n with
   |zero=>exact .nil
   |succ n=>exact .cons hx (ih h n)
theorem RelL.drop{a:List AV}{a':List Value}(h:RelL m a a'):∀n,RelL m (a.drop n) (a'.drop n):=by
 induction a generalizing a' with
 |nil=>intro n;cases h;simpa using RelL.nil
 |cons x a ih=>
  intro n;cases h with
  |cons hx h=>cases n with
   |zero=>exact .cons hx h
   |succ n=>exact ih h n
theorem y2c:∀{l:List AV} {l':List Value},l.length=l'.length→(∀(i:Nat) (x:AV) (y:Value),l[i]? =some x→l'[i]? =some y→Rel m x y)→RelL m l l'
 |[],[],_,_=>.nil
 |[],_::_,h,_=>by simp at h
 |_::_,[],h,_=>by simp at h
 |x::l,y::l',h,hr=>.cons (hr 0 x y rfl rfl) (y2c (by simpa using h) (fun i a b ha hb=>hr (i+1) a b (by simpa using ha) (by simpa using hb)))
theorem RelL.replicate{x:AV}{y:Value}(h:Rel m x y):∀n,RelL m (List.replicate n x) (List.replicate n y)
 |0=>.nil
 |n+1=>.cons h (RelL.replicate h n)
theorem RelL.reps{a:List AV}{a':List Value}(h:RelL m a a'):∀n,RelL m (List.replicate n a).flatten (List.replicate n a').flatten
 |0=>.nil
 |n+1=>by simpa [List.replicate_succ] using h.append (RelL.reps h n)
theorem Rel.cells{x:AV}{y:Value}(h:Rel m x y):RelL m x.cells y.cells.toList:=by
 cases h
 case agg h=>exact h
 case tup h=>exact .cons (.tup h) .nil
 all_goals exact .cons (by constructor<;>assumption) .nil
theorem Rel.one{x:AV}{y:Value}(h:Rel m x y)(hx:x.one=true):y.oneCell'=true:=by
 cases h<;>first|rfl|simp[AV.one] at hx
theorem RelL.one{l:List AV}{l':List Value}(h:RelL m l l')(hx:l.all AV.one=true):∀v∈l',v.oneCell'=true:=by
 induction l generalizing l' with
 |nil=>cases h;intro v hv;simp at hv
 |cons x l ih=>
  cases h with
  |cons h1 h2=>
   simp only[List.all_cons,Bool.and_eq_true] at hx;intro v hv
   rcases List.mem_cons.1 hv with rfl|hv
   ·exact h1.one hx.1
   ·exact ih h2 hx.2 v hv
end
mutual
theorem z21e(m:Map):∀(v:Value) (x:AV),zfb v=some x→Rel m x v
 | .bool b,x,h=>by simp only[zfb,Option.some.injEq] at h;subst h;exact .bool b
 | .int k n,x,h=>by simp only[zfb,Option.some.injEq] at h;subst h;exact .int k n
 | .string s,x,h=>by simp only[zfb,Option.some.injEq] at h;subst h;exact .str s rfl rfl
 | .pointer none,x,h=>by simp only[zfb,Option.some.injEq] at h;subst h;exact .nilp
 | .slice none 0 0,x,h=>by simp only[zfb,Option.some.injEq] at h;subst h;exact .nsl
 | .map none,x,h=>by simp only[zfb,Option.some.injEq] at h;subst h;exact .nmp
 | .nilFunc,x,h=>by simp only[zfb,Option.some.injEq] at h;subst h;exact .nfn
 | .nilIface,x,h=>by simp only[zfb,Option.some.injEq] at h;subst h;exact .nifc
 | .iface t v,x,h=>by
  simp only[zfb] at h
  split at h
  ·rename_i y hy
   simp only[Option.some.injEq] at h;subst h;exact .ifc (z21e m v y hy)
  ·cases h
 | .agg ⟨l⟩,x,h=>by
  simp only[zfb] at h
  split at h
  ·rename_i y hy
   simp only[Option.some.injEq] at h;subst h;exact .agg (z17d m l y hy)
  ·cases h
 | .tuple ⟨l⟩,x,h=>by
  simp only[zfb] at h
  split at h
  ·rename_i y hy
   simp only[Option.some.injEq] at h;subst h;exact .tup (z17d m l y hy)
  ·cases h
 | .func (.func f) ⟨a⟩ ⟨b⟩,x,h=>by
  simp only[zfb] at h
  split at h
  ·rename_i y z hy hz
   simp only[Option.some.injEq] at h;subst h;exact .fn (z17d m a y hy) (z17d m b z hz)
  ·cases h
 | .func (.method _) _ _,x,h=>by simp[zfb] at h
 | .func (.methodOf _ _) _ _,x,h=>by simp[zfb] at h
 | .func (.via _ _ _ _) _ _,x,h=>by simp[zfb] at h
 | .func (.yield _) _ _,x,h=>by simp[zfb] at h
 | .float _ _,x,h=>by simp[zfb] at h
 | .complex _ _ _,x,h=>by simp[zfb] at h
 | .pointer (some _),x,h=>by simp[zfb] at h
 | .slice (some _) _ _,x,h=>by simp[zfb] at h
 | .slice none 0 (_+1),x,h=>by simp[zfb] at h
 | .slice none (_+1) _,x,h=>by simp[zfb] at h
 | .map (some _),x,h=>by simp[zfb] at h
 | .chan _,x,h=>by simp[zfb] at h
theorem z17d(m:Map):∀(v:List Value) (x:List AV),z267 v=some x→RelL m x v
 |[],x,h=>by simp only[z267,Option.some.injEq] at h;subst h;exact .nil
 |v::l,x,h=>by
  simp only[z267] at h
  split at h
  ·rename_i y z hy hz
   simp only[Option.some.injEq] at h;subst h;exact .cons (z21e m v y hy) (z17d m l z hz)
  ·cases h
end
theorem z129(g k:Nat)(h:k≠g):∀(vs:List Value) (o:Nat) (w:World),(w.setCells g o vs).heap[k]? =w.heap[k]?
 |[],_,_=>rfl
 |v::r,o,w=>by rw[World.setCells,z129 g k h r,Below.heap_setCell _ _ _ _ h]
theorem z211(g:Nat):∀(vs:List Value) (o:Nat) (w:World),(w.setCells g o vs).heap.size=w.heap.size
 |[],_,_=>rfl
 |v::r,o,w=>by rw[World.setCells,z211 g r];simp
theorem z175{B g:Nat}(hg:B≤g){a:World}:∀(vs:List Value) (o:Nat) (w:World),Below B a w→Below B a (w.setCells g o vs)
 |[],_,_,h=>h
 |v::r,o,_,h=>z175 hg r _ _ (h.setCell (p:=⟨g,o,none⟩) hg v)
theorem z190(g:Nat)(e:TypeId)(fz:Nat×Nat):∀(vs:List Value) (o:Nat) (c:Array Value) (w:World),w.heap[g]? =some (.cells c e fz)→
  ∃c',(w.setCells g o vs).heap[g]? =some (.cells c' e fz)∧c'.size=c.size∧∀i,i<c.size→c'[i]? =if o≤i∧i<o+vs.length then vs[i - o]? else c[i]?
 |[],o,c,w,h=>⟨c,h,rfl,fun i _=>by rw[if_neg (by simp)]⟩
 |v::r,o,c,w,h=>by
  have h1:(w.setCell ⟨g,o,none⟩ v).heap[g]? =some (.cells (c.setIfInBounds o v) e fz):=by
   simp[World.setCell,Array.getElem?_modify,h]
  obtain⟨c',h2,h3,h4⟩:=z190 g e fz r (o+1) _ _ h1;refine⟨c',h2,by simpa using h3,fun i hi=>?_⟩;rw[h4 i (by simpa using hi)]
  by_cases a:o+1≤i∧i<o+1+r.length
  ·rw[if_pos a,if_pos (by simp;omega),show i - o=(i - (o+1))+1 by omega,List.getElem?_cons_succ]
  ·rw [if_neg a]
   by_cases b:o=i
   ·subst b
    rw[if_pos (by simp),Nat.sub_self,Array.getElem?_setIfInBounds_self_of_lt hi]
    simp
   ·rw[if_neg (by simp;omega),Array.getElem?_setIfInBounds_ne b]
def RowAt(m:Map)(g s z n:Nat)(t:T AV)(e:TypeId)(w:World):Prop:=
 ∃(c:Array Value) (fz:Nat×Nat),w.heap[g]? =some (.cells c e fz)∧c.size=z∧s+n≤z∧(∀i,i<z→¬(fz.1≤i∧i<fz.2))∧(∀i,n≤i→t.get i=none)∧
  ∀i,i<n→∃x y,t.get i=some x∧c[s+i]? =some y∧Rel m x y∧y.oneCell'=true
inductive RelM (m:Map):List (AV×AV)→List MapEntry→Prop
 |nil:RelM m [] []
 |cons {k v:AV} {en:MapEntry} {l:List (AV×AV)} {l':List MapEntry} (hk:Rel m k en.key) (hv:Rel m v en.val) (h:RelM m l l'):RelM m ((k,v)::l) (en::l')
theorem RelM.mono{m m':Map}(hm:Map.le m m'){l:List (AV×AV)}{l':List MapEntry}(h:RelM m l l'):RelM m' l l':=by
 induction h with
 |nil=>exact .nil
 |cons hk hv _ ih=>exact .cons (hk.mono hm) (hv.mono hm) ih
def MapAt(m:Map)(g:Nat)(es:List (AV×AV))(w:World):Prop:=∃(es':Array MapEntry) (clock:Nat),w.heap[g]? =some (.map es' clock)∧RelM m es es'.toList
def RoAt(m:Map)(w0:World)(g s:Nat)(t:T AV):Prop:=g<w0.heap.size∧∀i x,t.get i=some x→∃y,w0.cell? ⟨g,s+i,none⟩=some y∧Rel m x y∧y.oneCell'=true
theorem RoAt.mono{m m':Map}(hm:Map.le m m'){w0:World}{g s:Nat}{t:T AV}(h:RoAt m w0 g s t):RoAt m' w0 g s t:=
 ⟨h.1,fun i x hx=>by obtain⟨y,a,b,c⟩:=h.2 i x hx;exact⟨y,a,b.mono hm,c⟩⟩
def Unfz(g z:Nat)(w:World):Prop:=∀(c:Array Value) (e:TypeId) (fz:Nat×Nat),w.heap[g]? =some (.cells c e fz)→¬(fz.1≤z∧z<fz.2)
theorem Unfz.world{g z:Nat}{w w':World}(h:Unfz g z w)(hw:w'.heap[g]? =w.heap[g]?):Unfz g z w':=fun c e fz hc=>h c e fz (by rw[←hw];exact hc)
theorem Unfz.zero{g z:Nat}{w:World}{c:Array Value}{e:TypeId}(h:w.heap[g]? =some (.cells c e (0,0))):Unfz g z w:=fun c' e' fz hc=>by
 rw[h] at hc;cases hc
 simp
def LoopAt(m:Map)(g:Nat)(r:ALoop)(w:World):Prop:=
 ∃r':Loop,w.heap[g]? =some (.loop r')∧r'.state=r.st∧r'.pending=r.pend.code∧r'.tmps.size=r.N∧(∀t v,r.tmps.get t=some v→∃v',r'.tmps[t]? =some v'∧Rel m v v')∧
  r'.params=r.ps∧r'.assign=r.assign∧r'.body=r.body∧m[r.dfr]? =some (some (r'.defers,0,0))
def KeepAt(m:Map)(g:Nat)(q:AKeep)(w:World):Prop:=match q with
 | .loop r=>LoopAt m g r w
 | .dfr=>w.heap[g]? =some (.deferred (some []))
 | .shut=>w.heap[g]? =some (.deferred none)
theorem LoopAt.mono{m m':Map}(hm:Map.le m m'){g:Nat}{r:ALoop}{w:World}(h:LoopAt m g r w):LoopAt m' g r w:=by
 obtain⟨r',a1,a2,a3,a4,a5,a6,a7,a8,a9⟩:=h;exact⟨r',a1,a2,a3,a4,fun t v hv=>by obtain⟨v',b1,b2⟩:=a5 t v hv;exact⟨v',b1,b2.mono hm⟩,a6,a7,a8,hm _ _ a9⟩
theorem KeepAt.mono{m m':Map}(hm:Map.le m m'){g:Nat}{q:AKeep}{w:World}(h:KeepAt m g q w):KeepAt m' g q w:=by
 cases q with
 |loop r=>exact LoopAt.mono hm h
 |dfr=>exact h
 |shut=>exact h
theorem KeepAt.world{m:Map}{g:Nat}{q:AKeep}{w w':World}(h:KeepAt m g q w)(hw:w'.heap[g]? =w.heap[g]?):KeepAt m g q w':=by
 cases q with
 |loop r=>obtain⟨r',a1,a2⟩:=h;exact⟨r',hw.trans a1,a2⟩
 |dfr=>exact hw.trans h
 |shut=>exact hw.trans h
theorem KeepAt.some{m:Map}{g:Nat}{q:AKeep}{w:World}(h:KeepAt m g q w):∃o:Obj,w.heap[g]? =some o:=by
 cases q with
 |loop r=>obtain⟨r',a1,_⟩:=h;exact⟨_,a1⟩
 |dfr=>exact⟨_,h⟩
 |shut=>exact⟨_,h⟩
def AObj.alive:AObj→Bool
 | .dead=>false
 | .ro _=>false
 | .glob _=>false
 |_=>true
structure Base where
 w:World
 pins:List (Nat×Obj):=[]
 floor:Nat:=0
abbrev Base.heap(b:Base):Array Obj:=b.w.heap
instance:Coe World Base:=⟨fun w=>{w:=w}⟩
structure Fits (w0:Base) (m:Map) (H:AHeap) (w:World):Prop where
 below:Below w0.heap.size w0.w w
 len:m.length=H.next
 fresh:∀b,H.next≤b→H.get b=none
 wf:∀b n t e,H.get b=some (.row n t e)→∀i,n≤i→t.get i=none
 row:∀b n t e g s z,H.get b=some (.row n t e)→m[b]? =some (some (g,s,z))→w0.heap.size≤g∧RowAt m g s z n t e w
 map:∀b es g s z,H.get b=some (.map es)→m[b]? =some (some (g,s,z))→s=0∧z=0∧w0.heap.size≤g∧MapAt m g es w
 obj:∀b q g s z,H.get b=some (.obj q)→m[b]? =some (some (g,s,z))→s=0∧z=0∧w0.heap.size≤g∧KeepAt m g q w
 exact:∀b n t e g s z,H.get b=some (.row n t e)→m[b]? =some (some (g,s,z))→zbf e H.ex=true→(s=0∧z=n)∧Unfz g z w
 ro:∀b t g s z,H.get b=some (.ro t)→m[b]? =some (some (g,s,z))→RoAt m w0.w g s t
 glob:∀b t,H.get b=some (.glob t)→∃z,m[b]? =some (some (b,0,z))∧RoAt m w0.w b 0 t
 floor:w0.floor≤w.heap.size
 pin:∀k o,(k,o)∈w0.pins→w.heap[k]? =some o∧∀b o' s z,H.get b=some o'→o'.alive=true→m[b]? ≠some (some (k,s,z))
 sep:∀b b' o o' g s z s' z',b≠b'→H.get b=some o→H.get b'=some o'→o.alive=true→o'.alive=true→m[b]? =some (some (g,s,z))→m[b']? =some (some (g,s',z'))→False
theorem RowAt.mono{m m':Map}(hm:Map.le m m'){g s z n:Nat}{t:T AV}{e:TypeId}{w:World}(h:RowAt m g s z n t e w):RowAt m' g s z n t e w:=by
 obtain⟨c,fz,a1,a2,a3,a4,a5,a6⟩:=h;exact⟨c,fz,a1,a2,a3,a4,a5,fun i hi=>by obtain⟨x,y,b1,b2,b3,b4⟩:=a6 i hi;exact⟨x,y,b1,b2,b3.mono hm,b4⟩⟩
theorem RowAt.world{m:Map}{g s z n:Nat}{t:T AV}{e:TypeId}{w w':World}(h:RowAt m g s z n t e w)(hw:w'.heap[g]? =w.heap[g]?):RowAt m g s z n t e w':=by
 obtain⟨c,fz,a1,a2⟩:=h;exact⟨c,fz,hw.trans a1,a2⟩
theorem MapAt.mono{m m':Map}(hm:Map.le m m'){g:Nat}{es:List (AV×AV)}{w:World}(h:MapAt m g es w):MapAt m' g es w:=by
 obtain⟨a,c,h1,h2⟩:=h;exact⟨a,c,h1,h2.mono hm⟩
theorem MapAt.world{m:Map}{g:Nat}{es:List (AV×AV)}{w w':World}(h:MapAt m g es w)(hw:w'.heap[g]? =w.heap[g]?):MapAt m g es w':=by
 obtain⟨a,c,h1,h2⟩:=h;exact⟨a,c,hw.trans h1,h2⟩
section
variable {w0:Base}{w:World}{m:Map}{H:AHeap}
theorem zc1{w:World}{k:Nat}{o:Obj}(h:w.heap[k]? =some o):k<w.heap.size:=(Array.getElem?_eq_some_iff.1 h).1
theorem z1f(b:Nat)(o:AObj):(H.put b o).get b=some o:=y15 _ _ _
theorem z16{b b':Nat}(o:AObj)(h:b≠b'):(H.put b o).get b'=H.get b':=y17 _ _ h
theorem z3c(o:AObj):(H.new o).get H.next=some o:=y15 _ _ _
theorem z1b{b':Nat}(o:AObj)(h:H.next≠b'):(H.new o).get b'=H.get b':=y17 _ _ h
theorem Fits.lt_next(F:Fits w0 m H w){b:Nat}{o:AObj}(h:H.get b=some o):b<H.next:=by
 rcases Nat.lt_or_ge b H.next with hb|hb
 ·exact hb
 ·rw[F.fresh b hb] at h;cases h
theorem Fits.mapped_lt(F:Fits w0 m H w){b:Nat}{o:AObj}{g s z:Nat}(h:H.get b=some o)(ho:o.alive=true)(hm:m[b]? =some (some (g,s,z))):g<w.heap.size:=by
 cases o with
 |row n t e=>obtain⟨_,c,fz,hc,_⟩:=F.row b n t e g s z h hm;exact zc1 hc
 |map es=>obtain⟨_,_,_,a,c,hc,_⟩:=F.map b es g s z h hm;exact zc1 hc
 |obj q=>obtain⟨_,_,_,hk⟩:=F.obj b q g s z h hm;obtain⟨_,hc⟩:=hk.some;exact zc1 hc
 |dead=>cases ho
 |ro t=>cases ho
 |glob t=>cases ho
theorem Fits.size(F:Fits w0 m H w):w0.heap.size≤w.heap.size:=F.below.size
theorem Fits.world{w':World}(F:Fits w0 m H w)(hb:Below w0.heap.size w0.w w')(hw:∀b o g s z,H.get b=some o→o.alive=true→m[b]? =some (some (g,s,z))→w'.heap[g]? =w.heap[g]?)(hp:∀k o,(k,o)∈w0.pins→w'.heap[k]? =w.heap[k]?)(hz:w.heap.size≤w'.heap.size):Fits w0 m H w' where
 floor:=Nat.le_trans F.floor hz
 pin k o hk:=⟨(hp k o hk).trans (F.pin k o hk).1,(F.pin k o hk).2⟩
 below:=hb
 len:=F.len
 fresh:=F.fresh
 wf:=F.wf
 row b n t e g s z h hm:=⟨(F.row b n t e g s z h hm).1,(F.row b n t e g s z h hm).2.world (hw b _ g s z h rfl hm)⟩
 map b es g s z h hm:=⟨(F.map b es g s z h hm).1,(F.map b es g s z h hm).2.1,(F.map b es g s z h hm).2.2.1,(F.map b es g s z h hm).2.2.2.world (hw b _ g s z h rfl hm)⟩
 obj b q g s z h hm:=⟨(F.obj b q g s z h hm).1,(F.obj b q g s z h hm).2.1,(F.obj b q g s z h hm).2.2.1,(F.obj b q g s z h hm).2.2.2.world (hw b _ g s z h rfl hm)⟩
 exact b n t e g s z h hm he:=⟨(F.exact b n t e g s z h hm he).1,(F.exact b n t e g s z h hm he).2.world (hw b _ g s z h rfl hm)⟩
 ro:=F.ro
 glob:=F.glob
 sep:=F.sep
theorem Fits.drew(F:Fits w0 m H w):Fits w0 m H w.drew:=F.world F.below.drew (fun _ _ _ _ _ _ _ _=>rfl) (fun _ _ _=>rfl) (Nat.le_refl _)
theorem Fits.alloc(F:Fits w0 m H w)(o:Obj):Fits w0 m H (w.alloc o):=
 F.world (F.below.alloc F.size o) (fun _ _ _ _ _ h ho hm=>Below.heap_alloc _ _ _ (F.mapped_lt h ho hm)) (fun _ _ hk=>Below.heap_alloc _ _ _ (zc1 (F.pin _ _ hk).1)) (by rw[World.size_alloc];exact Nat.le_succ _)
theorem Fits.kill(F:Fits w0 m H w){b:Nat}(hlt:b<H.next):Fits w0 m (H.put b .dead) w where
 below:=F.below
 floor:=F.floor
 pin k o hk:=⟨(F.pin k o hk).1,fun b' o' s z h ho=>by
  by_cases e':b=b'
  ·subst e';rw[z1f] at h;cases h;cases ho
  ·rw[z16 _ e'] at h;exact(F.pin k o hk).2 b' o' s z h ho⟩
 len:=F.len
 fresh b' h:=by
  by_cases e:b=b'
  ·subst e;exact absurd hlt (Nat.not_lt.2 h)
  ·rw[z16 _ e];exact F.fresh b' h
 wf b' n t e h:=by
  by_cases e':b=b'
  ·subst e';rw[z1f] at h;cases h
  ·rw[z16 _ e'] at h;exact F.wf b' n t e h
 row b' n t e g s z h hm:=by
  by_cases e':b=b'
  ·subst e';rw[z1f] at h;cases h
  ·rw[z16 _ e'] at h;exact F.row b' n t e g s z h hm
 map b' es g s z h hm:=by
  by_cases e':b=b'
  ·subst e';rw[z1f] at h;cases h
  ·rw[z16 _ e'] at h;exact F.map b' es g s z h hm
 obj b' q g s z h hm:=by
  by_cases e':b=b'
  ·subst e';rw[z1f] at h;cases h
  ·rw[z16 _ e'] at h;exact F.obj b' q g s z h hm
 exact b' n t e g s z h hm he:=by
  by_cases e':b=b'
  ·subst e';rw[z1f] at h;cases h
  ·rw[z16 _ e'] at h;exact F.exact b' n t e g s z h hm he
 ro b' t g s z h hm:=by
  by_cases e':b=b'
  ·subst e';rw[z1f] at h;cases h
  ·rw[z16 _ e'] at h;exact F.ro b' t g s z h hm
 glob b' t h:=by
  by_cases e':b=b'
  ·subst e';rw[z1f] at h;cases h
  ·rw[z16 _ e'] at h;exact F.glob b' t h
 sep b1 b2 o1 o2 g s z s' z' hne h1 h2 a1 a2 m1 m2:=by
  by_cases e1:b=b1
  ·subst e1;rw[z1f] at h1;cases h1;cases a1
  ·by_cases e2 : b = b2
   ·subst e2;rw[z1f] at h2;cases h2;cases a2
   ·rw [z16 _ e1] at h1; rw [z16 _ e2] at h2
    exact F.sep b1 b2 o1 o2 g s z s' z' hne h1 h2 a1 a2 m1 m2
theorem Fits.put(F:Fits w0 m H w){b:Nat}{o o':AObj}{g s z:Nat}{w':World}(h:H.get b=some o)(ho:o.alive=true)(ho':o'.alive=true)(hm:m[b]? =some (some (g,s,z)))(hb:Below w0.heap.size w0.w w')(hother:∀k,k≠g→k<w.heap.size→w'.heap[k]? =w.heap[k]?)(hrow:∀n t e,o'=.row n t e→w0.heap.size≤g∧RowAt m g s z n t e w')(hmap:∀es,o'=.map es→s=0∧z=0∧w0.heap.size≤g∧MapAt m g es w')(hex:∀n t e,o'=.row n t e→zbf e H.ex=true→(s=0∧z=n)∧Unfz g z w')(hobj:∀q,o'=.obj q→s=0∧z=0∧w0.heap.size≤g∧KeepAt m g q w':=by intro q h;first|(cases h;done)|(simp[zb0] at h;done)):Fits w0 m (H.put b o') w' where
 floor:=by
  refine Nat.le_trans F.floor (Nat.le_of_not_lt fun hlt=>?_)
  have hgx:∃q,w'.heap[g]? =some q:=by
   cases o' with
   |row n t e=>obtain⟨_,c,fz,h1,_⟩:=hrow n t e rfl;exact⟨_,h1⟩
   |map es=>obtain⟨_,_,_,a,c,h1,_⟩:=hmap es rfl;exact⟨_,h1⟩
   |obj q=>exact(hobj q rfl).2.2.2.some
   |dead=>cases ho'
   |ro t=>cases ho'
   |glob t=>cases ho'
  by_cases e:w'.heap.size=g
  ·obtain ⟨q, hq⟩ := hgx
   have:=zc1 hq;omega
  ·have h1 := hother _ e hlt
   rw[Array.getElem?_eq_none (Nat.le_refl _),Array.getElem?_eq_getElem hlt] at h1;cases h1
 pin k o2 hk:=by
  have hg:k≠g:=fun e=>(F.pin k o2 hk).2 b o s z h ho (by rw[e];exact hm);refine⟨(hother k hg (zc1 (F.pin k o2 hk).1)).trans (F.pin k o2 hk).1,fun b' o3 s' z' h' ho3=>?_⟩
  by_cases e':b=b'
  ·subst e'
   intro hm';rw[hm] at hm';cases hm';exact hg rfl
  ·rw [z16 _ e'] at h'
   exact(F.pin k o2 hk).2 b' o3 s' z' h' ho3
 below:=hb
 len:=F.len
 fresh b' hb':=by
  by_cases e:b=b'
  ·subst e;exact absurd (F.lt_next h) (Nat.not_lt.2 hb')
  ·rw[z16 _ e];exact F.fresh b' hb'
 wf b' n t e h':=by
  by_cases e':b=b'
  ·subst e'
   rw[z1f] at h';cases h';obtain⟨_,c,fz,_,_,_,_,h5,_⟩:=hrow n t e rfl;exact h5
  ·rw[z16 _ e'] at h';exact F.wf b' n t e h'
 row b' n t e g' s' z' h' hm':=by
  by_cases e':b=b'
  ·subst e'
   rw[z1f] at h';rw[hm] at hm';cases hm';cases h';exact hrow n t e rfl
  ·rw [z16 _ e'] at h'
   have hr:=F.row b' n t e g' s' z' h' hm';refine⟨hr.1,hr.2.world (hother g' (fun eg=>?_) (F.mapped_lt h' rfl hm'))⟩;subst eg;exact F.sep b b' o _ _ s z s' z' e' h h' ho rfl hm hm'
 map b' es g' s' z' h' hm':=by
  by_cases e':b=b'
  ·subst e'
   rw[z1f] at h';rw[hm] at hm';cases hm';cases h';exact hmap es rfl
  ·rw [z16 _ e'] at h'
   have hr:=F.map b' es g' s' z' h' hm';refine⟨hr.1,hr.2.1,hr.2.2.1,hr.2.2.2.world (hother g' (fun eg=>?_) (F.mapped_lt h' rfl hm'))⟩;subst eg;exact F.sep b b' o _ _ s z s' z' e' h h' ho rfl hm hm'
 obj b' q g' s' z' h' hm':=by
  by_cases e':b=b'
  ·subst e'
   rw[z1f] at h';rw[hm] at hm';cases hm';cases h';exact hobj q rfl
  ·rw [z16 _ e'] at h'
   have hr:=F.obj b' q g' s' z' h' hm';refine⟨hr.1,hr.2.1,hr.2.2.1,hr.2.2.2.world (hother g' (fun eg=>?_) (F.mapped_lt h' rfl hm'))⟩;subst eg;exact F.sep b b' o _ _ s z s' z' e' h h' ho rfl hm hm'
 exact b' n t e g' s' z' h' hm' he:=by
  by_cases e':b=b'
  ·subst e'
   rw[z1f] at h';rw[hm] at hm';cases hm';cases h';exact hex n t e rfl he
  ·rw [z16 _ e'] at h'
   have hr:=F.exact b' n t e g' s' z' h' hm' he;refine⟨hr.1,hr.2.world (hother g' (fun eg=>?_) (F.mapped_lt h' rfl hm'))⟩;subst eg;exact F.sep b b' o _ _ s z s' z' e' h h' ho rfl hm hm'
 ro b' t g' s' z' h' hm':=by
  by_cases e':b=b'
  ·subst e';rw[z1f] at h';cases h';cases ho'
  ·rw[z16 _ e'] at h';exact F.ro b' t g' s' z' h' hm'
 glob b' t h':=by
  by_cases e':b=b'
  ·subst e';rw[z1f] at h';cases h';cases ho'
  ·rw[z16 _ e'] at h';exact F.glob b' t h'
 sep b1 b2 o1 o2 g' s1 z1 s2 z2 hne h1 h2 a1 a2 m1 m2:=by
  by_cases e1:b=b1
  ·subst e1
   rw[z16 _ hne] at h2;exact F.sep b b2 o o2 g' s1 z1 s2 z2 hne h h2 ho a2 m1 m2
  ·by_cases e2 : b = b2
   ·subst e2
    rw[z16 _ e1] at h1;exact F.sep b1 b o1 o g' s1 z1 s2 z2 hne h1 h a1 ho m1 m2
   ·rw [z16 _ e1] at h1; rw [z16 _ e2] at h2
    exact F.sep b1 b2 o1 o2 g' s1 z1 s2 z2 hne h1 h2 a1 a2 m1 m2
theorem Fits.new(F:Fits w0 m H w)(o:AObj){g s z:Nat}(hfree:∀b o' s' z',H.get b=some o'→o'.alive=true→m[b]? ≠some (some (g,s',z')))(hrow:∀n t e,o=.row n t e→w0.heap.size≤g∧RowAt (m++[some (g,s,z)]) g s z n t e w)(hmap:∀es,o=.map es→s=0∧z=0∧w0.heap.size≤g∧MapAt (m++[some (g,s,z)]) g es w)(hex:∀n t e,o=.row n t e→zbf e H.ex=true→(s=0∧z=n)∧Unfz g z w)(hro:∀t,o=.ro t→RoAt (m++[some (g,s,z)]) w0.w g s t:=by intro t h;first|(cases h;done)|(simp[zb0] at h;done))(hpin:∀k o',(k,o')∈w0.pins→o.alive=true→g≠k)(hobj:∀q,o=.obj q→s=0∧z=0∧w0.heap.size≤g∧KeepAt (m++[some (g,s,z)]) g q w:=by intro q h;first|(cases h;done)|(simp[zb0] at h;done))(hglob:∀t,o≠ .glob t:=by intro t h;first|(cases h;done)|(simp[zb0] at h;done)):
  Fits w0 (m++[some (g,s,z)]) (H.new o) w where
 below:=F.below
 floor:=F.floor
 pin k o' hk:=⟨(F.pin k o' hk).1,fun b o2 s' z' h ho hm=>by
  by_cases eb:H.next=b
  ·subst eb
   rw[z3c] at h;rw[←F.len,List.getElem?_append_right (Nat.le_refl _)] at hm
   simp at hm
   cases h;exact hpin k o' hk ho hm.1
  ·rw [z1b _ eb] at h
   rw[List.getElem?_append_left (by rw[F.len];exact F.lt_next h)] at hm;exact(F.pin k o' hk).2 b o2 s' z' h ho hm⟩
 len:=by simp[F.len,AHeap.new]
 fresh b hb:=by
  have:H.next+1≤b:=hb;rw[z1b _ (by omega)];exact F.fresh b (by omega)
 wf b n t e h:=by
  by_cases eb:H.next=b
  ·subst eb
   rw[z3c] at h;cases h;obtain⟨_,c,fz,_,_,_,_,h5,_⟩:=hrow n t e rfl;exact h5
  ·rw[z1b _ eb] at h;exact F.wf b n t e h
 row b n t e g' s' z' h hm:=by
  by_cases eb:H.next=b
  ·subst eb
   rw[z3c] at h;rw[←F.len,List.getElem?_append_right (Nat.le_refl _)] at hm
   simp at hm
   obtain⟨rfl,rfl,rfl⟩:=hm;cases h;exact hrow n t e rfl
  ·rw [z1b _ eb] at h
   have hlt:=F.lt_next h;rw[List.getElem?_append_left (by rw[F.len];exact hlt)] at hm;have hr:=F.row b n t e g' s' z' h hm;exact⟨hr.1,hr.2.mono (ye m _)⟩
 map b es g' s' z' h hm:=by
  by_cases eb:H.next=b
  ·subst eb
   rw[z3c] at h;rw[←F.len,List.getElem?_append_right (Nat.le_refl _)] at hm
   simp at hm
   obtain⟨rfl,rfl,rfl⟩:=hm;cases h;exact hmap es rfl
  ·rw [z1b _ eb] at h
   have hlt:=F.lt_next h;rw[List.getElem?_append_left (by rw[F.len];exact hlt)] at hm;have hr:=F.map b es g' s' z' h hm;exact⟨hr.1,hr.2.1,hr.2.2.1,hr.2.2.2.mono (ye m _)⟩
 obj b q g' s' z' h hm:=by
  by_cases eb:H.next=b
  ·subst eb
   rw[z3c] at h;rw[←F.len,List.getElem?_append_right (Nat.le_refl _)] at hm
   simp at hm
   obtain⟨rfl,rfl,rfl⟩:=hm;cases h;exact hobj q rfl
  ·rw [z1b _ eb] at h
   have hlt:=F.lt_next h;rw[List.getElem?_append_left (by rw[F.len];exact hlt)] at hm;have hr:=F.obj b q g' s' z' h hm;exact⟨hr.1,hr.2.1,hr.2.2.1,hr.2.2.2.mono (ye m _)⟩
 exact b n t e g' s' z' h hm he:=by
  by_cases eb:H.next=b
  ·subst eb
   rw[z3c] at h;rw[←F.len,List.getElem?_append_right (Nat.le_refl _)] at hm
   simp at hm
   obtain⟨rfl,rfl,rfl⟩:=hm;cases h;exact hex n t e rfl he
  ·rw [z1b _ eb] at h
   have hlt:=F.lt_next h;rw[List.getElem?_append_left (by rw[F.len];exact hlt)] at hm;exact F.exact b n t e g' s' z' h hm he
 ro b t g' s' z' h hm:=by
  by_cases eb:H.next=b
  ·subst eb
   rw[z3c] at h;rw[←F.len,List.getElem?_append_right (Nat.le_refl _)] at hm
   simp at hm
   obtain⟨rfl,rfl,rfl⟩:=hm;cases h;exact hro t rfl
  ·rw [z1b _ eb] at h
   have hlt:=F.lt_next h;rw[List.getElem?_append_left (by rw[F.len];exact hlt)] at hm;exact(F.ro b t g' s' z' h hm).mono (ye m _)
 glob b t h:=by
  by_cases eb:H.next=b
  ·subst eb
   rw[z3c] at h;exact absurd (Option.some.inj h) (hglob t)
  ·rw [z1b _ eb] at h
   obtain⟨z',h1,h2⟩:=F.glob b t h;exact⟨z',ye m _ _ _ h1,h2.mono (ye m _)⟩
 sep b1 b2 o1 o2 g' s1 z1 s2 z2 hne h1 h2 a1 a2 m1 m2:=by
  have old:∀{b:Nat} {o'':AObj} {p:Nat×Nat×Nat},H.next≠b→(H.new o).get b=some o''→(m++[some (g,s,z)])[b]? =some (some p)→H.get b=some o''∧m[b]? =some (some p):=by
   intro b o'' p eb h hm;rw[z1b _ eb] at h;have hlt:=F.lt_next h;rw[List.getElem?_append_left (by rw[F.len];exact hlt)] at hm;exact⟨h,hm⟩
  have new:∀{p:Nat×Nat×Nat},(m++[some (g,s,z)])[H.next]? =some (some p)→p=(g,s,z):=by
   intro p hm;rw[←F.len,List.getElem?_append_right (Nat.le_refl _)] at hm
   simp at hm
   exact hm.symm
  by_cases e1:H.next=b1
  ·subst e1
   obtain⟨h2',m2'⟩:=old hne h2 m2;have:=new m1
   cases this
   exact hfree b2 o2 _ _ h2' a2 m2'
  ·obtain ⟨h1', m1'⟩ := old e1 h1 m1
   by_cases e2:H.next=b2
   ·subst e2
    have:=new m2
    cases this
    exact hfree b1 o1 _ _ h1' a1 m1'
   ·obtain ⟨h2', m2'⟩ := old e2 h2 m2
    exact F.sep b1 b2 o1 o2 g' s1 z1 s2 z2 hne h1' h2' a1 a2 m1' m2'
end
end
noncomputable section
open Go.RowKit
section
variable {P:Program}{m:Map}
theorem z226{t:TypeId}{d:TypeDesc}(h:P.underlying t=some d):∃i,P.info? t=some i:=by
 cases hi:P.info? t with
 |some i=>exact⟨i,rfl⟩
 |none=>simp[Program.underlying,hi] at h
theorem z24b{t:TypeId}{b:Bool}(h:z1ab P t=some b)(w:World):(isAgg t).run P w=.ok b w:=by
 unfold z1ab at h
 split at h
 ·rename_i d hd
  simp only[Option.some.injEq] at h;subst h;unfold isAgg;rw[Sem.run_bind,run_underlying hd,Result.andThen_ok]
  cases d<;>rfl
 ·cases h
theorem z19c{t:TypeId}{b:Bool}(h:z1ab P t=some b):∃i,P.info? t=some i:=by
 unfold z1ab at h
 split at h
 ·rename_i d hd;exact z226 hd
 ·cases h
theorem zaf{t:TypeId}{i:TypeInfo}(h:P.info? t=some i):P.cellsOf t=i.size:=by simp[Program.cellsOf,h]
theorem z1f7{t:TypeId}{cs:List AV}{cs':List Value}{o:Nat}{x:AV}(hr:RelL m cs cs')(h:z1f8 P t cs o=some x)(w:World):
  ∃x',(part t ⟨cs'⟩ o).run P w=.ok x' w∧Rel m x x':=by
 unfold z1f8 at h
 split at h
 ·rename_i ha
  split at h
  ·simp only [Option.some.injEq] at h
   subst h;obtain⟨i,hi⟩:=z19c ha;refine⟨.agg ⟨(cs'.drop o).take (P.cellsOf t)⟩,?_,.agg ((hr.drop o).take _)⟩;unfold part;rw[Sem.run_bind,z24b ha,Result.andThen_ok];simp only[if_true,Sem.run_bind,run_sizeOf w hi,Result.andThen_ok,Sem.run_pure]
   congr 2
   apply Array.ext'
   simp[List.take_drop]
   try rw[Nat.add_comm]
  ·cases h
 ·rename_i ha
  obtain⟨y,hy,hxy⟩:=hr.get o x h;refine⟨y,?_,hxy⟩;unfold part;rw[Sem.run_bind,z24b ha,Result.andThen_ok]
  simp[hy]
 ·cases h
theorem zb1{a:Bool}{y:Value}(h:Rel m (.bool a) y):y=.bool a:=by cases h;rfl
theorem z6c{k:IntKind}{n:Int}{y:Value}(h:Rel m (.int k n) y):y=.int k n:=by cases h;rfl
theorem z29c{n v n' v':Nat}{s s':ByteArray}(h1:s.data.toList.length=n)(h2:enc s.data.toList=v)(h3:s'.data.toList.length=n')(h4:enc s'.data.toList=v'):
  (Nat.beq n n'&&Nat.beq v v')=(s == s'):=by
 subst h1 h2 h3 h4;rw[enc_eq];obtain⟨⟨x⟩⟩:=s;obtain⟨⟨y⟩⟩:=s';show (x == y)=((⟨x⟩:Array UInt8) == ⟨y⟩)
 simp
mutual
theorem z26e:∀(d:Nat) (t:TypeId) (x y:AV) (x' y':Value) (b:Bool),eqA P d t x y=some b→Rel m x x'→Rel m y y'→∀(D:Nat) (w:World),d≤D→(Op.equalIn D t x' y').run P w=.ok b w
 |0,_,_,_,_,_,_,h,_,_,_,_,_=>by simp[eqA] at h
 |d+1,t,x,y,x',y',b,h,hx,hy,D,w,hD=>by
  obtain⟨D,rfl⟩:∃E,D=E+1:=⟨D - 1,by omega⟩;simp only[eqA] at h
  split at h
  ·rename_i hu
   split at h
   ·simp only [Option.some.injEq] at h; subst h
    rw[zb1 hx,zb1 hy];exact run_equalIn_bool' w D t _ _ hu
   ·cases h
  ·rename_i k hu
   split at h
   ·split at h
    ·rename_i hk
     simp only[Option.some.injEq] at h;subst h;subst hk;rw[z6c hx,z6c hy];exact run_equalIn_int w D t _ _ _ _ hu
    ·cases h
   ·cases h
  ·rename_i hu
   split at h
   ·simp only [Option.some.injEq] at h; subst h
    cases hx with|str s h1 h2=>cases hy with|str s' h3 h4=>
    rw[run_equalIn_string w D t _ _ hu,z29c h1 h2 h3 h4,beq_toListBytes]
   ·cases h
  ·rename_i fs hu
   split at h
   ·split at h
    ·cases h
    ·rename_i xs ys hp
     cases hx with|agg hx=>cases hy with|agg hy=>
     have hu':P.underlying t=some (.struct (P.fieldsOf t)):=by simp[Program.fieldsOf,hu]
     rw[run_equalIn_struct w D t _ _ hu' (by simpa using hp)];exact z1fe d _ xs ys _ _ b h hx hy D w (by omega)
   ·cases h
  ·rename_i n e hu
   split at h
   ·rename_i xs ys
    cases hx with|agg hx=>cases hy with|agg hy=>
    split at h
    ·rename_i i hi
     rw[run_equalIn_array w D _ _ hu hi,List.range_eq_range'];exact z31d d e _ n 0 xs ys _ _ b h hx hy D w (by omega)
    ·cases h
   ·cases h
  ·cases h
theorem z1fe:∀(d:Nat) (fs:List Field) (xs ys:List AV) (xs' ys':List Value) (b:Bool),eqFields P d fs xs ys=some b→RelL m xs xs'→RelL m ys ys'→∀(D:Nat) (w:World),d≤D→(Op.eqFields D ⟨xs'⟩ ⟨ys'⟩ fs).run P w=.ok b w
 |0,_,_,_,_,_,_,h,_,_,_,_,_=>by simp[eqFields] at h
 |d+1,[],xs,ys,xs',ys',b,h,_,_,D,w,_=>by
  simp only[eqFields,Option.some.injEq] at h;subst h
  simp[Op.eqFields]
 |d+1,f::fs,xs,ys,xs',ys',b,h,hx,hy,D,w,hD=>by
  simp only[eqFields] at h
  split at h
  ·rename_i hn
   have:=z1fe d fs xs ys xs' ys' b h hx hy D w (by omega);simp only[Op.eqFields,hn,ne_eq,not_true_eq_false,if_false];exact this
  ·rename_i hn
   split at h
   ·rename_i a c ha hc
    obtain⟨a',pa,ra⟩:=z1f7 hx ha w;obtain⟨c',pc,rc⟩:=z1f7 hy hc w;simp only[Op.eqFields,ne_eq,hn,not_false_eq_true,if_true,Sem.run_bind,pa,pc,Result.andThen_ok]
    split at h
    ·rename_i he
     rw[z26e d f.type a c a' c' true he ra rc D w (by omega)];simp only[Result.andThen_ok,Bool.not_true,Bool.false_eq_true,if_false];exact z1fe d fs xs ys xs' ys' b h hx hy D w (by omega)
    ·rename_i r hne
     cases b with
     |true=>exact absurd h (by simpa using hne)
     |false=>
      rw[z26e d f.type a c a' c' false h ra rc D w (by omega)]
      simp
   ·cases h
theorem z31d:∀(d:Nat) (e:TypeId) (s n i:Nat) (xs ys:List AV) (xs' ys':List Value) (b:Bool),z25c P d e s n i xs ys=some b→RelL m xs xs'→RelL m ys ys'→∀(D:Nat) (w:World),d≤D→(Op.eqItems D e s ⟨xs'⟩ ⟨ys'⟩ (List.range' i n)).run P w=.ok b w
 |0,_,_,_,_,_,_,_,_,_,h,_,_,_,_,_=>by simp[z25c] at h
 |d+1,e,s,0,i,xs,ys,xs',ys',b,h,_,_,D,w,_=>by
  simp only[z25c,Option.some.injEq] at h;subst h
  simp[Op.eqItems]
 |d+1,e,s,n+1,i,xs,ys,xs',ys',b,h,hx,hy,D,w,hD=>by
  simp only[z25c] at h
  split at h
  ·rename_i a c ha hc
   obtain⟨a',pa,ra⟩:=z1f7 hx ha w;obtain⟨c',pc,rc⟩:=z1f7 hy hc w;rw[List.range'_succ];simp only[Op.eqItems,Sem.run_bind,pa,pc,Result.andThen_ok]
   split at h
   ·rename_i he
    rw[z26e d e a c a' c' true he ra rc D w (by omega)];simp only[Result.andThen_ok,Bool.not_true,Bool.false_eq_true,if_false];exact z31d d e s n (i+1) xs ys xs' ys' b h hx hy D w (by omega)
   ·rename_i r hne
    cases b with
    |true=>exact absurd h (by simpa using hne)
    |false=>
     rw[z26e d e a c a' c' false h ra rc D w (by omega)]
     simp
  ·cases h
end
def PureOK(m:Map)(w:World)(H:AHeap)(nx:ANext)(H':AHeap)(r:Result Value):Prop:=∃v v',nx=.val v∧H'=H∧r=.ok v' w∧Rel m v v'
variable {w:World}{H H':AHeap}{nx:ANext}
theorem z2ad{x:Option AV}{x':Value}{r:Result Value}(h:z1a5 H x=some (nx,H'))(hx:∀v,x=some v→r=.ok x' w∧Rel m v x'):PureOK m w H nx H' r:=by
 unfold z1a5 at h
 split at h
 ·rename_i v
  simp only[Option.some.injEq,Prod.mk.injEq] at h;obtain⟨rfl,rfl⟩:=h;obtain⟨h1,h2⟩:=hx v rfl;exact⟨v,x',rfl,rfl,h1,h2⟩
 ·cases h
theorem z37{v:AV}{v':Value}{r:Result Value}(h:some (ANext.val v,H)=some (nx,H'))(hr:r=.ok v' w)(hv:Rel m v v'):PureOK m w H nx H' r:=by
 simp only[Option.some.injEq,Prod.mk.injEq] at h;obtain⟨rfl,rfl⟩:=h;exact⟨v,v',rfl,rfl,hr,hv⟩
theorem z40b(op:BinOp)(t:TypeId)(x y:Operand)(a b:Value)(h:op≠ .eql)(h2:op≠ .neq)(w:World):(eqGuard op t x y a b).run P w=.ok () w:=by
 cases op<;>first|exact absurd rfl h|exact absurd rfl h2|rfl
theorem z144(op:BinOp)(t:TypeId)(x y:Operand)(a b:Value)(h:∀l,a≠ .agg l)(h2:a≠ .nilIface∨b≠ .nilIface)(w:World):(eqGuard op t x y a b).run P w=.ok () w:=by
 by_cases h3:op=.eql∨op=.neq
 ·have h4 : ∀ op', (eqGuard op' t x y a b).run P w = .ok () w := by
   intro op'
   cases a
   case agg l=>exact absurd rfl (h l)
   case nilIface=>cases b<;>first|(rcases h2 with h2|h2<;>exact absurd rfl h2)|(cases op'<;>rfl)
   all_goals(cases op'<;>rfl)
  exact h4 op
 ·exact z40b op t x y a b (fun e=>h3 (.inl e)) (fun e=>h3 (.inr e)) w
theorem z40d(op:BinOp)(t:TypeId)(x y:Operand)(l:Array Value)(b:Value)(hg:P.eqGuardType P.depth t=false)(w:World):(eqGuard op t x y (.agg l) b).run P w=.ok () w:=by
 cases b
 case agg l'=>exact run_eqGuard_agg w op t x y l l' hg
 all_goals(cases op<;>rfl)
theorem z40c(op:BinOp)(t:TypeId)(x y:Operand)(h:(z141 x||z141 y)=true)(w:World):(eqGuard op t x y .nilIface .nilIface).run P w=.ok () w:=by
 cases x<;>cases y<;>simp[z141] at h<;>cases op<;>rfl
theorem binInt_ok(op:BinOp)(k:IntKind)(a b:Int)(v:AV)(h:z3dc op k a b=some v)(t:TypeId)(w:World):∃v',(binOp op t (.int k a) (.int k b)).run P w=.ok v' w∧Rel m v v':=by
  unfold z3dc at h
  cases op<;>simp only[reduceCtorEq,Option.some.injEq] at h
  all_goals first
    |(subst h;refine⟨_,?_,by constructor⟩;simp[binOp,Op.intArith,Op.intBits,Op.intCmp];done)
    | (split at h
       ·cases h
       · rename_i hb
         simp only[Option.some.injEq] at h;subst h;refine⟨_,?_,by constructor⟩;simp[binOp,Op.intDiv,hb])
theorem z2d6(op:BinOp)(k k':IntKind)(a b:Int)(v:AV)(h:z1d3 op k a b=some v)(hop:op=.shl∨op=.shr)(t:TypeId)(w:World):∃v',(binOp op t (.int k a) (.int k' b)).run P w=.ok v' w∧Rel m v v':=by
 unfold z1d3 at h
 split at h
 ·cases h
 ·rename_i hb
  rcases hop with rfl|rfl
  all_goals
   simp only[Option.some.injEq] at h;subst h;refine⟨_,?_,by constructor⟩
   simp[binOp,Op.shift,hb]
theorem binII_ok(op:BinOp)(k k':IntKind)(a b:Int)(v:AV)(h:z41f op k k' a b=some v)(t:TypeId)(w:World):∃v',(binOp op t (.int k a) (.int k' b)).run P w=.ok v' w∧Rel m v v':=by
 unfold z41f at h
 split at h
 ·exact z2d6 _ k k' a b v h (.inl rfl) t w
 ·exact z2d6 _ k k' a b v h (.inr rfl) t w
 ·split at h
  ·rename_i hk
   subst hk;exact binInt_ok _ k a b v h t w
  ·cases h
theorem zc7(s:ByteArray):s.size=s.data.toList.length:=by rw[Array.length_toList];rfl
theorem z275(a b:ByteArray):(a++b).data.toList=a.data.toList++b.data.toList:=by simp
theorem binStr_ok(op:BinOp)(n a k b:Nat)(s s':ByteArray)(h1:s.data.toList.length=n)(h2:enc s.data.toList=a)(h3:s'.data.toList.length=k)(h4:enc s'.data.toList=b)(v:AV)(h:z45e op n a k b=some v)(t:TypeId)(w:World):
  ∃v',(binOp op t (.string s) (.string s')).run P w=.ok v' w∧Rel m v v':=by
 unfold z45e at h
 split at h
 ·split at h
  ·rename_i hle
   simp only[Option.some.injEq] at h;subst h;have hle:=Nat.le_of_ble_eq_true hle;refine⟨.string (s++s'),?_,.str _ ?_ ?_⟩
   ·have hs : ¬ (((s.size + s'.size : Nat) : Int) > IntKind.i64.max) := by
     have e1:=zc7 s;have e2:=zc7 s';have e3:IntKind.i64.max=9223372036854775807:=by decide
     rw[e3];omega
    simp only[binOp,Op.stringOp];rw[if_neg hs];rfl
   ·rw[z275,List.length_append,h1,h3]
   ·rw[z275,z1cf,h1,h2,h4]
  ·cases h
 ·simp only [Option.some.injEq] at h; subst h
  refine⟨_,?_,by constructor⟩;simp only[binOp,Op.stringOp,z29c h1 h2 h3 h4,beq_toListBytes];rfl
 ·simp only [Option.some.injEq] at h; subst h
  refine⟨_,?_,by constructor⟩;simp only[binOp,Op.stringOp,z29c h1 h2 h3 h4,beq_toListBytes];rfl
 ·cases h
theorem nil_ok{t:TypeId}{x y:AV}{x' y':Value}{b:Bool}(ho:z405 P t x y=true)(h:nilA x y=some b)(hx:Rel m x x')(hy:Rel m y y')(D:Nat)(w:World):(Op.equalIn (D+1) t x' y').run P w=.ok b w:=by
  unfold nilA at h
  split at h
  all_goals first
    |(cases h;done)
    | (simp only [Option.some.injEq] at h; subst h
       cases hx;cases hy;unfold z405 at ho;cases hu:P.underlying t with
       |none=>simp[hu] at ho
       |some d=>cases d<;>simp[hu] at ho<;>simp[Op.equalIn,run_underlying hu])
theorem z488{t:TypeId}{ms:Array (String×TypeId)}(hu:P.underlying t=some (.interface ms))(w:World):(Op.equal t .nilIface .nilIface).run P w=.ok true w:=by
 have h:∀D,(Op.equalIn (D+1) t .nilIface .nilIface).run P w=.ok true w:=fun D=>by simp[Op.equalIn,run_underlying hu]
 exact h 9999
theorem z46e{t:TypeId}{b o:Nat}{y:AV}{x' y':Value}{r:Bool}(hx:Rel m (.ptr b o) x')(hy:Rel m y y')(h:z191 P t b o y=some r)(D:Nat)(w:World):(Op.equalIn (D+1) t x' y').run P w=.ok r w:=by
 unfold z191 at h
 split at h
 ·split at h
  ·rename_i e hu
   split at h
   ·rename_i hc
    obtain⟨h1,h2,h3⟩:=hc;have h1:=Nat.eq_of_beq_eq_true h1;have h2:=Nat.eq_of_beq_eq_true h2;subst h1 h2;simp only[Option.some.injEq] at h;subst h;obtain⟨i,hi⟩:=Option.isSome_iff_exists.1 h3;cases hx with|ptr hm=>
    cases hy with|ptr hm'=>
    rw[hm] at hm';cases hm'
    simp[Op.equalIn,run_underlying hu,sizeOf,typeInfo,hi,run_sameAddr_same]
   ·cases h
  ·cases h
 ·split at h
  ·rename_i e hu
   simp only[Option.some.injEq] at h;subst h;cases hx;cases hy
   simp[Op.equalIn,run_underlying hu]
  ·cases h
 ·cases h
theorem z31c(t:TypeId)(x y:AV)(x' y':Value)(hx:Rel m x x')(hy:Rel m y y')(b:Bool)(h:z9f P t x y=some b)(w:World):(Op.equal t x' y').run P w=.ok b w:=by
 unfold z9f at h;unfold Op.equal Op.maxDepth
 split at h
 ·split at h
  ·cases h
  ·exact z26e 2000 t _ y x' y' b h hx hy 10000 w (by omega)
 ·exact z26e 2000 t _ y x' y' b h hx hy 10000 w (by omega)
 ·exact z46e hx hy h 9999 w
 ·split at h
  ·rename_i ho
   exact nil_ok ho h hx hy 9999 w
  ·cases h
theorem z228(op:BinOp)(t:TypeId)(px py:Operand)(x y:AV)(x' y':Value)(hx:Rel m x x')(hy:Rel m y y')(b:Bool)(h:z9f P t x y=some b)(hn:x≠ .nifc∨y≠ .nifc)(w:World):(eqGuard op t px py x' y').run P w=.ok () w:=by
 by_cases ha:∃l,x=.agg l
 ·obtain ⟨l, rfl⟩ := ha
  cases hx with|agg hl=>
  unfold z9f at h
  simp only at h
  split at h
  ·cases h
  ·rename_i hg
   exact z40d op t px py _ y' (by simpa using hg) w
 ·refine z144 op t px py x' y' (fun l e => ?_) ?_ w
  ·subst e;cases hx;exact ha ⟨_,rfl⟩
  ·rcases hn with hn | hn
   ·exact .inl (fun e=>by subst e;cases hx;exact hn rfl)
   ·exact .inr (fun e=>by subst e;cases hy;exact hn rfl)
theorem z2d7(op:BinOp)(t:TypeId)(px py:Operand)(x y:AV)(x' y':Value)(hx:Rel m x x')(hy:Rel m y y')(v:AV)(h:z1d4 P op t x y=some v)(hn:x≠ .nifc∨y≠ .nifc)(hi:∀k n,x≠ .int k n)(hs:∀n v,x≠ .str n v)(w:World):
  ∃v',(do eqGuard op t px py x' y';binOp op t x' y').run P w=.ok v' w∧Rel m v v':=by
 have hxi:∀k n,x'≠ .int k n:=fun k n e=>by subst e;cases hx;exact hi _ _ rfl
 have hxs:∀s,x'≠ .string s:=fun s e=>by subst e;cases hx;exact hs _ _ rfl
 unfold z1d4 at h
 split at h
 ·split at h
  ·rename_i b hb
   simp only[Option.some.injEq] at h;subst h;refine⟨.bool b,?_,.bool b⟩;rw[Sem.run_bind,z228 .eql t px py x y x' y' hx hy b hb hn w,Result.andThen_ok];have he:=z31c t x y x' y' hx hy b hb w;cases hx<;>cases hy<;>first|exact absurd rfl (hi _ _)|exact absurd rfl (hs _ _)|(simp only[binOp];simp[he])
  ·cases h
 ·split at h
  ·rename_i b hb
   simp only[Option.some.injEq] at h;subst h;refine⟨.bool (!b),?_,.bool _⟩;rw[Sem.run_bind,z228 .neq t px py x y x' y' hx hy b hb hn w,Result.andThen_ok];have he:=z31c t x y x' y' hx hy b hb w;cases hx<;>cases hy<;>first|exact absurd rfl (hi _ _)|exact absurd rfl (hs _ _)|(simp only[binOp];simp[he])
  ·cases h
 ·cases h
theorem binA_ok(op:BinOp)(t:TypeId)(px py:Operand)(x y:AV)(x' y':Value)(hx:Rel m x x')(hy:Rel m y y')(v:AV)(h:binA P op t x y (z141 px||z141 py)=some v)(w:World):
    ∃v',(do eqGuard op t px py x' y';binOp op t x' y').run P w=.ok v' w∧Rel m v v':=by
  unfold binA at h
  split at h
  · split at h
    · cases hx; cases hy
      rw[Sem.run_bind,z144 _ _ _ _ _ _ (fun l e=>by cases e) (.inl (fun e=>by cases e)) w,Result.andThen_ok];exact binII_ok _ _ _ _ _ v h t w
    ·cases h
  · split at h
    · cases hx with | str s h1 h2 => cases hy with | str s' h3 h4 =>
      rw[Sem.run_bind,z144 _ _ _ _ _ _ (fun l e=>by cases e) (.inl (fun e=>by cases e)) w,Result.andThen_ok];exact binStr_ok _ _ _ _ _ s s' h1 h2 h3 h4 v h t w
    ·cases h
  · split at h
    · split at h
      · rename_i hl
        cases hx;cases hy;have hg:=z40c (P:=P) op t px py hl w;rw[Sem.run_bind,hg,Result.andThen_ok];unfold nilIf at h
        split at h
        all_goals first
          |(cases h;done)
          | (rename_i hu
             simp only[Option.some.injEq] at h;subst h;refine⟨_,?_,by constructor⟩;have he:=z488 hu w;simp only[binOp]
             simp[he])
      ·cases h
    · rename_i hy'
      exact z2d7 op t px py _ y x' y' hx hy v h (.inr (fun e=>hy' e)) (fun _ _ e=>by cases e) (fun _ _ e=>by cases e) w
  · rename_i h1 h2 h3
    exact z2d7 op t px py x y x' y' hx hy v h (.inl h3) (fun k n e=>h1 k n e) (fun n v e=>h2 n v e) w
end
end
noncomputable section
open Go.RowKit
structure Ext (m m':Map):Prop where
 le:Map.le m m'
 virt:∀k:Nat,m[k]? =some none→m'[k]? =some none
theorem Ext.refl(m:Map):Ext m m:=⟨Map.le_refl m,fun _ h=>h⟩
theorem Ext.trans{a b c:Map}(h:Ext a b)(k:Ext b c):Ext a c:=⟨Map.le_trans h.le k.le,fun i hi=>k.virt i (h.virt i hi)⟩
theorem Ext.append(m e:Map):Ext m (m++e):=⟨ye m e,fun k h=>by
 have hb:k<m.length:=(List.getElem?_eq_some_iff.1 h).1;rw[List.getElem?_append_left hb];exact h⟩
def z462(m:Map)(w':World):ANext→Result Next→Prop
 | .val v,r=>∃v',r=.ok (.value v') w'∧Rel m v v'
 | .skip,r=>r=.ok .skip w'
 | .call f args,r=>∃args',r=.ok (.enter f ⟨args'⟩) w'∧RelL m args args'
 | .panic v,r=>∃v',r=.halt (.panic v') w'∧Rel m v v'
 | .defer f args cap,r=>∃args' cap',r=.ok (.defer {target:=.fn (.func f) ⟨cap'⟩,args:=⟨args'⟩}) w'∧RelL m args args'∧RelL m cap cap'
 | .round b args, r => ∃ g r' args', m[b]? = some (some (g, 0, 0)) ∧ w'.heap[g]? = some (.loop r') ∧ args.length = r'.params.size ∧ RelL m args args' ∧
   r=.ok (.round g r'.fn ((r'.params.zip ⟨args'⟩).foldl (fun tmps (t,a)=>tmps.setIfInBounds t a) r'.tmps) r'.assign r'.body) w'
def z237(w0:Base)(m:Map)(H':AHeap)(nx:ANext)(r:Result Next):Prop:=∃m' w',Ext m m'∧Fits w0 m' H' w'∧z462 m' w' nx r
def ValPost(w0:Base)(m:Map)(H':AHeap)(nx:ANext)(r:Result Value):Prop:=∃m' w' v v',Ext m m'∧Fits w0 m' H' w'∧nx=.val v∧r=.ok v' w'∧Rel m' v v'
section
variable {P:Program}{m:Map}{w0:Base}{w:World}{H H':AHeap}{nx:ANext}
theorem PureOK.post{r:Result Value}(F:Fits w0 m H w)(h:PureOK m w H nx H' r):ValPost w0 m H' nx r:=by
 obtain⟨v,v',rfl,rfl,hr,hv⟩:=h;exact⟨m,w,v,v',Ext.refl m,F,rfl,hr,hv⟩
theorem ValPost.op{s:Sem Value}(h:ValPost w0 m H' nx (s.run P w)):z237 w0 m H' nx ((do pure (Next.value (←s)):Sem Next).run P w):=by
 obtain⟨m',w',v,v',he,F,rfl,hr,hv⟩:=h;refine⟨m',w',he,F,v',?_,hv⟩
 simp[hr]
inductive RelP (m:Map):List (Nat×AV)→List (Nat×Value)→Prop
 |nil:RelP m [] []
 |cons {i:Nat} {x:AV} {y:Value} {l:List (Nat×AV)} {l':List (Nat×Value)} (h:Rel m x y) (k:RelP m l l'):RelP m ((i,x)::l) ((i,y)::l')
theorem z1fb{α:Type}:∀(cs:List α) (o:Nat) (vs:List α),(lput cs o vs).length=cs.length
 |_,_,[]=>by unfold lput;rfl
 |[],_,_::_=>rfl
 |_::cs,0,_::vs=>by simp[lput,z1fb cs 0 vs]
 |_::cs,o+1,v::vs=>by simp[lput,z1fb cs o (v::vs)]
theorem z3b8{α:Type}:∀(cs:List α) (o:Nat) (v:α) (vs:List α),lput cs o (v::vs)=lput (cs.set o v) (o+1) vs
 |[],o,v,vs=>by cases vs<;>simp[lput]
 |c::cs,0,v,vs=>by cases vs<;>simp[lput]
 |c::cs,o+1,v,vs=>by
  have:=z3b8 cs o v vs
  cases vs with
  |nil=>simp only[List.set_cons_succ];simp only[lput] at this ⊢;rw[this]
  |cons u vs=>simp only[List.set_cons_succ];simp only[lput] at this ⊢;rw[this]
theorem RelL.lput{a:List AV}{a':List Value}:∀{b:List AV} {b':List Value} (o:Nat),RelL m a a'→RelL m b b'→RelL m (lput a o b) (lput a' o b'):=by
 induction a generalizing a' with
 |nil=>
  intro b b' o h k;cases h
  cases k<;>(unfold Go.Proofs.Ytpnccmlajhhpdaa.Abs.lput;exact .nil)
 |cons x a ih=>
  intro b b' o h k
  cases k with
  |nil=>unfold Go.Proofs.Ytpnccmlajhhpdaa.Abs.lput;exact h
  |cons k1 k2=>
   cases h with
   |cons h1 h2=>
    cases o with
    |zero=>simp only[Go.Proofs.Ytpnccmlajhhpdaa.Abs.lput];exact .cons k1 (ih 0 h2 k2)
    |succ o=>simp only[Go.Proofs.Ytpnccmlajhhpdaa.Abs.lput];exact .cons h1 (ih o h2 (.cons k1 k2))
theorem z3ca(off:Nat):∀(vs:List Value) (k:Nat) (cs:Array Value),((vs.zipIdx k).foldl (fun (cs:Array Value) (x:Value×Nat)=>cs.setIfInBounds (off+x.2) x.1) cs).toList=lput cs.toList (off+k) vs
 |[],k,cs=>by simp[lput]
 |v::vs,k,cs=>by
  rw[List.zipIdx_cons,List.foldl_cons,z3ca off vs (k+1),z3b8]
  simp[Nat.add_assoc]
theorem z40a{pa:Nat→Option (Nat×Nat)}{pv:Nat→Option (Nat×Nat)}(hp:∀i q,pa i=some q→pv i=some q):∀(ps:List (Nat×AV)) (ps':List (Nat×Value)) (cs:List AV) (cs':Array Value) (r:List AV),
  RelP m ps ps'→RelL m cs cs'.toList→z258 pa cs ps=some r→∃r':Array Value,Instr.fill pv cs' ps'=some r'∧RelL m r r'.toList:=by
 intro ps
 induction ps with
 |nil=>
  intro ps' cs cs' r hps hcs h;cases hps;simp only[z258,Option.some.injEq] at h;subst h;exact⟨cs',rfl,hcs⟩
 |cons p ps ih=>
  intro ps' cs cs' r hps hcs h;cases hps with
  | @cons i x y l l' hxy hps=>
   simp only[z258] at h
   split at h
   ·cases h
   ·rename_i off size hq
    split at h
    ·rename_i hc
     obtain⟨h1,h2⟩:=hc;have hl:=hxy.cells.length;have hl2:=hcs.length;simp only[Array.length_toList] at hl hl2
     have hfold:RelL m (lput cs off x.cells) ((y.cells.zipIdx.foldl (fun (cs:Array Value) (x:Value×Nat)=>cs.setIfInBounds (off+x.2) x.1) cs').toList):=by
      rw[←Array.foldl_toList,Array.toList_zipIdx,z3ca off y.cells.toList 0 cs'];exact RelL.lput _ hcs hxy.cells
     obtain⟨r',h3,h4⟩:=ih l' _ _ r hps hfold h;refine⟨r',?_,h4⟩;simp only[Instr.fill,hp i _ hq];rw[if_neg (by simp;omega)];exact h3
    ·cases h
theorem z353{ρ:z1be}{ρ':Operand→Value}:∀(l:List (Nat×Operand)) (ps:List (Nat×AV)),(∀x∈l.map (·.2),∀v,ρ x=some v→Rel m v (ρ' x))→z219 ρ l=some ps→RelP m ps (l.map fun (i,x)=>(i,ρ' x))
 |[],ps,_,h=>by simp only[z219,Option.some.injEq] at h;subst h;exact .nil
 |(i,x)::l,ps,hr,h=>by
  simp only[z219] at h
  split at h
  ·rename_i v r hv hr'
   simp only[Option.some.injEq] at h;subst h;exact .cons (hr x (by simp) v hv) (z353 l r (fun y hy=>hr y (by simp at hy ⊢;exact .inr hy)) hr')
  ·cases h
theorem z372{ρ:z1be}{ρ':Operand→Value}:∀(l:List Operand) (ps:List AV),(∀x∈l,∀v,ρ x=some v→Rel m v (ρ' x))→z286 ρ l=some ps→RelL m ps (l.map ρ')
 |[],ps,_,h=>by simp only[z286,Option.some.injEq] at h;subst h;exact .nil
 |x::l,ps,hr,h=>by
  simp only[z286] at h
  split at h
  ·rename_i v r hv hr'
   simp only[Option.some.injEq] at h;subst h;exact .cons (hr x (by simp) v hv) (z372 l r (fun y hy=>hr y (by simp[hy])) hr')
  ·cases h
theorem z1e9(m:Map){t:TypeId}{z:AV}(h:z176 P t=some z):∃i zv,P.info? t=some i∧i.zero=some zv∧Rel m z zv∧z.cells.length=i.size∧zv.cells.size=i.size:=by
 unfold z176 at h
 split at h
 ·rename_i i hi
  split at h
  ·rename_i v hz
   split at h
   ·rename_i x hx
    split at h
    ·rename_i hl
     simp only[Option.some.injEq] at h;subst h;have hr:=z21e m v x hx;exact⟨i,v,hi,hz,hr,hl,by have:=hr.cells.length;simp at this;omega⟩
    ·cases h
   ·cases h
  ·cases h
 ·cases h
theorem z3ad:∀(fs:List Field),(∀f∈fs,(P.info? f.type).isSome=true)→fs.mapM (fun f=>(P.info? f.type).map fun i=>(f.offset,i.size))=some (fs.map fun f=>(f.offset,P.cellsOf f.type))
 |[],_=>rfl
 |f::fs,h=>by
  obtain⟨i,hi⟩:=Option.isSome_iff_exists.1 (h f (by simp));have ih:=z3ad fs (fun g hg=>h g (by simp[hg]));simp only[List.mapM_cons,hi,Option.map_some,Option.bind_eq_bind,Option.bind_some,ih,Option.pure_def,List.map_cons,zaf hi]
theorem build_ok{ρ:z1be}{ρ':Operand→Value}{t:TypeId}{parts:Array (Nat×Operand)}(hr:∀x∈parts.toList.map (·.2),∀v,ρ x=some v→Rel m v (ρ' x))(h:z196 P ρ H t parts=some (nx,H')):
  PureOK m w H nx H' ((Instr.build t (parts.map fun (i,x)=>(i,ρ' x))).run P w):=by
 unfold z196 at h
 split at h
 ·rename_i z ps hz hps
  obtain⟨i,zv,hi,hzv,hrel,hl,hl'⟩:=z1e9 m hz;have hp:=z353 (m:=m) parts.toList ps hr hps
  have fin:∀(r:List AV) (r':Array Value),z1e4 H (some r)=some (nx,H')→RelL m r r'.toList→P.built t (parts.map fun (i,x)=>(i,ρ' x)).toList=some r'→PureOK m w H nx H' ((Instr.build t (parts.map fun (i,x)=>(i,ρ' x))).run P w):=by
   intro r r' ho hrr hb;simp only[z1e4,Option.some.injEq,Prod.mk.injEq] at ho;obtain⟨rfl,rfl⟩:=ho;exact⟨.agg r,.agg r',rfl,rfl,run_build w t _ r' hb,.agg hrr⟩
  have hpl:(parts.map fun (i,x)=>(i,ρ' x)).toList=parts.toList.map fun (i,x)=>(i,ρ' x):=by simp
  split at h
  ·rename_i fs hu
   split at h
   ·rename_i hf
    unfold z1e4 at h
    split at h
    ·rename_i r hfill
     have hfs:∀f∈fs.toList,(P.info? f.type).isSome=true:=by
      unfold z366 at hf;intro f hf';exact(Array.all_eq_true_iff_forall_mem.1 hf) f (by simpa using hf')
     obtain⟨r',h1,h2⟩:=z40a (pa:=z18b P fs) (pv:=((fs.toList.map fun f=>(f.offset,P.cellsOf f.type)).toArray[·]?)) (fun j q hq=>by
      unfold z18b at hq
      split at hq
      ·rename_i f hfj
       simp only[Option.some.injEq] at hq;subst hq;have:fs.toList[j]? =some f:=by simpa using hfj
       simp[this]
      ·cases hq) ps _ z.cells zv.cells r hp hrel.cells hfill
     refine fin r r' h h2 ?_;unfold Program.built;simp only[hi,hu,hzv,z3ad fs.toList hfs];rw[hpl];exact h1
    ·cases h
   ·cases h
  ·rename_i n e hu
   split at h
   ·rename_i he
    obtain⟨ie,hie⟩:=Option.isSome_iff_exists.1 he;unfold z1e4 at h
    split at h
    ·rename_i r hfill
     obtain⟨r',h1,h2⟩:=z40a (pa:=fun i=>some (i*P.cellsOf e,P.cellsOf e)) (pv:=fun i=>some (i*ie.size,ie.size)) (fun j q hq=>by rw[zaf hie] at hq;exact hq) ps _ z.cells zv.cells r hp hrel.cells hfill;refine fin r r' h h2 ?_;unfold Program.built;simp only[hi,hu,hzv,hie];rw[hpl];exact h1
    ·cases h
   ·cases h
  ·cases h
 ·cases h
end
end
noncomputable section
open Go.RowKit
section
variable {P:Program}{m:Map}{w0:Base}{w:World}{H H':AHeap}{nx:ANext}
theorem Fits.globAt(F:Fits w0 m H w){b g s z:Nat}{t:T AV}(h:H.get b=some (.glob t))(hm:m[b]? =some (some (g,s,z))):RoAt m w0.w g s t:=by
 obtain⟨z',h1,h2⟩:=F.glob b t h;rw[hm] at h1;cases h1;exact h2
theorem z17b(F:Fits w0 m H w){b o n g s z:Nat}{l:List AV}(hm:m[b]? =some (some (g,s,z)))(h:z44 H b o n=some l):
  ∃l',RelL m l l'∧l'.length=n∧w.rangeAt g (s+o) l'∧(∀v∈l',v.oneCell'=true):=by
 unfold z44 at h
 split at h
 ·rename_i N t e hr
  obtain⟨_,c,fz,hc,hz,hs,hf,hnone,hcell⟩:=F.row b N t e g s z hr hm;obtain⟨hl,hg⟩:=y25 t n o l h
  have hin:∀k,k<n→o+k<N:=fun k hk=>by
   rcases Nat.lt_or_ge (o+k) N with h1|h1
   ·exact h1
   ·have := hnone _ h1
    rw[hg k hk,List.getElem?_eq_getElem (by omega)] at this
    cases this
  have hsz:∀k,k<n→s+o+k<c.size:=fun k hk=>by have:=hin k hk;omega
  refine⟨(c.toList.drop (s+o)).take n,y2c ?_ ?_,?_,?_,?_⟩
  ·rw [hl]
   simp only[List.length_take,List.length_drop,Array.length_toList]
   rcases Nat.eq_zero_or_pos n with h0|h0
   ·omega
   ·have:=hsz (n - 1) (by omega);omega
  ·intro i x y hx hy
   have hi:i<n:=by have:=(List.getElem?_eq_some_iff.1 hx).1;omega
   obtain⟨x',y',h1,h2,h3,_⟩:=hcell (o+i) (hin i hi);rw[hg i hi,hx] at h1;rw[List.getElem?_take_of_lt hi,List.getElem?_drop] at hy;have:c.toList[s+o+i]? =some y':=by simpa [Nat.add_assoc] using h2
   rw[this] at hy;cases h1;cases hy;exact h3
  ·simp only [List.length_take, List.length_drop, Array.length_toList]
   rcases Nat.eq_zero_or_pos n with h0|h0
   ·omega
   ·have:=hsz (n - 1) (by omega);omega
  ·intro i v hv
   have hi:i<n:=by have:=(List.getElem?_eq_some_iff.1 hv).1;simp at this;omega
   rw[List.getElem?_take_of_lt hi,List.getElem?_drop] at hv;rw[cell_of_row w g _ c e fz hc]
   simpa using hv
  ·intro v hv
   obtain⟨i,hi,rfl⟩:=List.mem_iff_getElem.1 hv;have hi':i<n:=by simp at hi;omega
   obtain⟨x',y',h1,h2,h3,h4⟩:=hcell (o+i) (hin i hi')
   have:((c.toList.drop (s+o)).take n)[i]? =some y':=by
    rw[List.getElem?_take_of_lt hi',List.getElem?_drop]
    simpa [Nat.add_assoc] using h2
   rw[List.getElem?_eq_getElem hi] at this;simp only[Option.some.injEq] at this;rw[this];exact h4
 ·rename_i t hr
  obtain⟨hlt,hcell⟩:=F.ro b t g s z hr hm;obtain⟨hl,hg⟩:=y25 t n o l h
  have hc:∀i,i<n→∃y,w.cell? ⟨g,s+o+i,none⟩=some y∧(∀x,l[i]? =some x→Rel m x y)∧y.oneCell'=true:=by
   intro i hi;obtain⟨y,h1,h2,h3⟩:=hcell (o+i) (l[i]'(by omega)) (by rw[hg i hi];exact List.getElem?_eq_getElem (by omega));refine⟨y,?_,fun x hx=>?_,h3⟩
   ·rw[F.below.cell (p:=⟨g,s+o+i,none⟩) hlt,show s+o+i=s+(o+i) by omega];exact h1
   ·rw[List.getElem?_eq_getElem (by omega)] at hx;cases hx;exact h2
  have key:∀(k:Nat),k≤n→∃l':List Value,l'.length=k∧∀i,i<k→∃y,l'[i]? =some y∧w.cell? ⟨g,s+o+i,none⟩=some y∧(∀x,l[i]? =some x→Rel m x y)∧y.oneCell'=true:=by
   intro k
   induction k with
   |zero=>intro _;exact⟨[],rfl,fun i hi=>by omega⟩
   |succ k ih=>
    intro hk;obtain⟨l',h1,h2⟩:=ih (by omega);obtain⟨y,hy⟩:=hc k (by omega);refine⟨l'++[y],by simp[h1],fun i hi=>?_⟩
    by_cases e:i<k
    ·obtain ⟨y', a, b⟩ := h2 i e
     exact⟨y',by rw[List.getElem?_append_left (by omega)];exact a,b⟩
    ·have : i = k := by omega
     subst this;exact⟨y,by rw[List.getElem?_append_right (by omega),h1];simp,hy⟩
  obtain⟨l',h1,h2⟩:=key n (Nat.le_refl n);refine⟨l',y2c (by omega) (fun i x y hx hy=>?_),h1,?_,fun v hv=>?_⟩
  ·obtain ⟨y', a, _, c, _⟩ := h2 i (by have := (List.getElem?_eq_some_iff.1 hy).1; omega)
   rw[a] at hy;cases hy;exact c x hx
  ·intro i v hv
   obtain⟨y',a,b,_,_⟩:=h2 i (by have:=(List.getElem?_eq_some_iff.1 hv).1;omega);rw[a] at hv;cases hv;exact b
  ·obtain ⟨i, hi, rfl⟩ := List.mem_iff_getElem.1 hv
   obtain⟨y',a,_,_,d⟩:=h2 i (by omega);rw[List.getElem?_eq_getElem hi] at a;cases a;exact d
 ·rename_i t hr
  obtain⟨hlt,hcell⟩:=F.globAt hr hm;obtain⟨hl,hg⟩:=y25 t n o l h
  have hc:∀i,i<n→∃y,w.cell? ⟨g,s+o+i,none⟩=some y∧(∀x,l[i]? =some x→Rel m x y)∧y.oneCell'=true:=by
   intro i hi;obtain⟨y,h1,h2,h3⟩:=hcell (o+i) (l[i]'(by omega)) (by rw[hg i hi];exact List.getElem?_eq_getElem (by omega));refine⟨y,?_,fun x hx=>?_,h3⟩
   ·rw[F.below.cell (p:=⟨g,s+o+i,none⟩) hlt,show s+o+i=s+(o+i) by omega];exact h1
   ·rw[List.getElem?_eq_getElem (by omega)] at hx;cases hx;exact h2
  have key:∀(k:Nat),k≤n→∃l':List Value,l'.length=k∧∀i,i<k→∃y,l'[i]? =some y∧w.cell? ⟨g,s+o+i,none⟩=some y∧(∀x,l[i]? =some x→Rel m x y)∧y.oneCell'=true:=by
   intro k
   induction k with
   |zero=>intro _;exact⟨[],rfl,fun i hi=>by omega⟩
   |succ k ih=>
    intro hk;obtain⟨l',h1,h2⟩:=ih (by omega);obtain⟨y,hy⟩:=hc k (by omega);refine⟨l'++[y],by simp[h1],fun i hi=>?_⟩
    by_cases e:i<k
    ·obtain ⟨y', a, b⟩ := h2 i e
     exact⟨y',by rw[List.getElem?_append_left (by omega)];exact a,b⟩
    ·have : i = k := by omega
     subst this;exact⟨y,by rw[List.getElem?_append_right (by omega),h1];simp,hy⟩
  obtain⟨l',h1,h2⟩:=key n (Nat.le_refl n);refine⟨l',y2c (by omega) (fun i x y hx hy=>?_),h1,?_,fun v hv=>?_⟩
  ·obtain ⟨y', a, _, c, _⟩ := h2 i (by have := (List.getElem?_eq_some_iff.1 hy).1; omega)
   rw[a] at hy;cases hy;exact c x hx
  ·intro i v hv
   obtain⟨y',a,b,_,_⟩:=h2 i (by have:=(List.getElem?_eq_some_iff.1 hv).1;omega);rw[a] at hv;cases hv;exact b
  ·obtain ⟨i, hi, rfl⟩ := List.mem_iff_getElem.1 hv
   obtain⟨y',a,_,_,d⟩:=h2 i (by omega);rw[List.getElem?_eq_getElem hi] at a;cases a;exact d
 ·cases h
theorem z48c(F:Fits w0 m H w){b o g s z:Nat}{x:AV}(hm:m[b]? =some (some (g,s,z)))(h:z9e H b o=some x):∃y,w.cell? ⟨g,s+o,none⟩=some y∧Rel m x y:=by
 unfold z9e at h
 split at h
 ·rename_i N t e hr
  obtain⟨_,c,fz,hc,hz,hs,hf,hnone,hcell⟩:=F.row b N t e g s z hr hm
  have hin:o<N:=by
   rcases Nat.lt_or_ge o N with h1|h1
   ·exact h1
   ·rw[hnone _ h1] at h;cases h
  obtain⟨x',y',h1,h2,h3,_⟩:=hcell o hin;rw[h] at h1;cases h1;exact⟨y',by rw[cell_of_row w g _ c e fz hc];exact h2,h3⟩
 ·rename_i t hr
  obtain⟨hlt,hcell⟩:=F.ro b t g s z hr hm;obtain⟨y,h1,h2,_⟩:=hcell o x h;exact⟨y,by rw[F.below.cell (p:=⟨g,s+o,none⟩) hlt];exact h1,h2⟩
 ·rename_i t hr
  obtain⟨hlt,hcell⟩:=F.globAt hr hm;obtain⟨y,h1,h2,_⟩:=hcell o x h;exact⟨y,by rw[F.below.cell (p:=⟨g,s+o,none⟩) hlt];exact h1,h2⟩
 ·cases h
theorem z2a4(F:Fits w0 m H w){b o g s z:Nat}{l:List AV}{vs:List Value}(hm:m[b]? =some (some (g,s,z)))(hr:RelL m l vs)(h:z1b3 H b o l=some H'):
  Fits w0 m H' (w.setCells g (s+o) vs)∧w.there g (s+o) vs.length∧(∀v∈vs,v.oneCell'=true):=by
 unfold z1b3 at h
 split at h
 ·rename_i N t e hrow
  split at h
  ·rename_i hc'
   obtain⟨hle,hone⟩:=hc';have hle:=Nat.le_of_ble_eq_true hle;simp only[Option.some.injEq] at h;subst h;have hlen:=hr.length;have hones:=hr.one hone;obtain⟨hB,c,fz,hc,hz,hs,hf,hnone,hcell⟩:=F.row b N t e g s z hrow hm;obtain⟨c',hc2,hsz2,hget⟩:=z190 g e fz vs (s+o) c w hc
   refine⟨F.put hrow rfl rfl hm (z175 hB vs _ _ F.below) (fun k hk _=>z129 g k hk vs _ _) (fun n' t' e' he=>?_) (fun es he=>by cases he) (fun n' t' e' he hx=>by
    cases he;exact⟨(F.exact b N t e g s z hrow hm hx).1,fun c1 e1 fz1 h1=>by rw[hc2] at h1;cases h1;exact(F.exact b N t e g s z hrow hm hx).2 c e fz hc⟩),?_,hones⟩
   ·cases he
    refine⟨hB,c',fz,hc2,by omega,hs,hf,fun i hi=>?_,fun i hi=>?_⟩
    ·rw[y32,if_neg (by omega)];exact hnone i hi
    ·rw [y32]
     by_cases hin:o≤i∧i<o+l.length
     ·rw [if_pos hin]
      have hx:l[i - o]? =some (l[i - o]'(by omega)):=List.getElem?_eq_getElem (by omega);obtain⟨y,hy,hxy⟩:=hr.get _ _ hx;refine⟨_,y,hx,?_,hxy,hones y (List.mem_of_getElem? hy)⟩;rw[hget _ (by omega),if_pos (by omega),show s+i - (s+o)=i - o by omega];exact hy
     ·rw [if_neg hin]
      obtain⟨x,y,h1,h2,h3,h4⟩:=hcell i hi;refine⟨x,y,h1,?_,h3,h4⟩;rw[hget _ (by omega),if_neg (by omega)];exact h2
   ·intro j hj
    have hlt:s+o+j<c.size:=by omega
    refine⟨by rw[cell_of_row w g _ c e fz hc,Array.getElem?_eq_getElem hlt];rfl,?_⟩;have:=hf (s+o+j) (by omega);have hfz:fz=(fz.1,fz.2):=rfl;simp only[World.frozen?,hc];rw[hfz];simp only[Bool.and_eq_false_imp,decide_eq_true_eq,decide_eq_false_iff_not];intro h1 h2;exact this ⟨h1,h2⟩
  ·cases h
 ·cases h
theorem zd3(l:List AV)(i:Nat):(T.put .e 0 l).get i=l[i]?:=by
 rw[y32]
 by_cases h:i<l.length
 ·rw[if_pos (by omega)];rfl
 ·rw[if_neg (by omega),y21,List.getElem?_eq_none (by omega)]
theorem z359(F:Fits w0 m H w){w':World}{l:List AV}{vs:List Value}{c:Array Value}{e:TypeId}{fz:Nat×Nat}(hb:Below w0.heap.size w0.w w')(hold:∀k,k<w.heap.size→w'.heap[k]? =w.heap[k]?)(hnew:w'.heap[w.heap.size]? =some (.cells c e fz))(hfz:∀i,i<c.size→¬(fz.1≤i∧i<fz.2))(hlen:vs.length≤c.size)(hc:∀i,i<vs.length→c[i]? =vs[i]?)(hr:RelL m l vs)(hone:∀v∈vs,v.oneCell'=true)(hex:zbf e H.ex=true→c.size=l.length∧¬(fz.1≤c.size∧c.size<fz.2)):
  Fits w0 (m++[some (w.heap.size,0,c.size)]) (H.new (zb0 l e)) w':=by
 have F':Fits w0 m H w':=F.world hb (fun b o g s z h ho hm=>hold g (F.mapped_lt h ho hm)) (fun k o hk=>hold k (zc1 (F.pin k o hk).1)) (Nat.le_of_lt (zc1 hnew));refine F'.new (zb0 l e) (fun b o' s' z' h ho hm=>?_) (fun n t e' he=>?_) (fun es he=>by cases he) (fun n t e' he hx=>by unfold zb0 at he;cases he;exact⟨⟨rfl,(hex hx).1⟩,fun c1 e1 fz1 h1=>by rw[hnew] at h1;cases h1;exact(hex hx).2⟩) (hpin:=fun k o' hk _=>by have:=zc1 (F.pin k o' hk).1;omega)
 ·have:=F.mapped_lt h ho hm;omega
 ·unfold zb0 at he
  cases he;have hl:=hr.length;refine⟨F.size,c,fz,hnew,rfl,by omega,hfz,fun i hi=>?_,fun i hi=>?_⟩
  ·rw[zd3,List.getElem?_eq_none hi]
  ·have hx : l[i]? = some l[i] := List.getElem?_eq_getElem hi
   obtain⟨y,hy,hxy⟩:=hr.get i _ hx;refine⟨l[i],y,by rw[zd3];exact hx,?_,hxy.mono (ye m _),hone y (List.mem_of_getElem? hy)⟩;rw[Nat.zero_add,hc i (by omega)];exact hy
theorem z162(F:Fits w0 m H w)(p:Nat×Nat×Nat):(m++[some p])[H.next]? =some (some p):=by
 rw[←F.len,List.getElem?_append_right (Nat.le_refl _)];simp
theorem z2b4(F:Fits w0 m H w){l:List AV}{vs:List Value}(e:TypeId)(extra:List Value)(hr:RelL m l vs)(hone:l.all AV.one=true)(hex:zbf e H.ex=true→extra=[]):
  Fits w0 (m++[some (w.heap.size,0,(vs++extra).length)]) (H.new (zb0 l e)) (w.alloc (.cells (vs++extra).toArray e)):=by
 have:=z359 F (w':=w.alloc (.cells (vs++extra).toArray e)) (c:=(vs++extra).toArray) (e:=e) (fz:=(0,0)) (F.below.alloc F.size _) (fun k hk=>Below.heap_alloc _ _ _ hk) (heap_alloc_new w _) (fun i _=>by simp) (by simp) (fun i hi=>by rw[List.getElem?_toArray,List.getElem?_append_left hi]) hr (hr.one hone) (fun hx=>⟨by rw[hex hx];have:=hr.length;simp;omega,by simp⟩)
 simpa using this
theorem z2a3(w:World)(g o:Nat)(t:TypeId)(y:Value)(hc:w.cell? ⟨g,o,none⟩=some y)(ha:z1ab P t=some false):(Instr.loadAt t (.pointer (some ⟨g,o,none⟩))).run P w=.ok y w:=by
 have hl:(load ⟨g,o,none⟩).run P w=.ok y w:=by simp[load,Sem.run,hc]
 simp only[Instr.loadAt,Instr.sureAddr,Sem.run_bind,Sem.run_pure,Result.andThen_ok,loadVar,z24b ha w]
 simpa using hl
theorem z3ba(F:Fits w0 m H w){t:TypeId}{b o g s z:Nat}(hm:m[b]? =some (some (g,s,z)))(h:(match z1ab P t with
   |some true=>match z44 H b o (P.cellsOf t) with
    |some l=>some (.val (.agg l),H)
    |none=>none
   |some false=>z1a5 H (z9e H b o)
   |none=>none)=some (nx,H')):PureOK m w H nx H' ((Instr.loadAt t (.pointer (some ⟨g,s+o,none⟩))).run P w):=by
 split at h
 ·rename_i ha
  split at h
  ·rename_i l hl
   simp only[Option.some.injEq,Prod.mk.injEq] at h;obtain⟨rfl,rfl⟩:=h;obtain⟨l',h1,h2,h3,h4⟩:=z17b F hm hl;obtain⟨i,hi⟩:=z19c ha
   have hd:∃d,P.underlying t=some d∧d.isRow=true:=by
    unfold z1ab at ha
    split at ha
    ·rename_i d hd
     refine⟨d,hd,?_⟩;simp only[Option.some.injEq] at ha
     cases d<;>simp_all [z1a7,TypeDesc.isRow]
    ·cases ha
   obtain⟨d,hu,hrow⟩:=hd;exact⟨.agg l,.agg ⟨l'⟩,rfl,rfl,(run_loadAt_mid w _ _ t l' d h3 hu hrow (by rw[hi,Option.map_some, ←zaf hi,h2])),.agg h1⟩
  ·cases h
 ·rename_i ha
  exact z2ad (x':=((w.cell? ⟨_,_+o,none⟩).getD undef)) h (fun v hv=>by
   obtain⟨y,h1,h2⟩:=z48c F hm hv;rw[h1];exact⟨z2a3 w _ _ t y h1 ha,h2⟩)
 ·cases h
theorem z402(F:Fits w0 m H w){t:TypeId}{x:Option AV}{x':Value}(hx:∀v,x=some v→Rel m v x')(h:za4 P H t x=some (nx,H')):PureOK m w H nx H' ((Instr.loadAt t x').run P w):=by
 unfold za4 at h
 split at h
 ·rename_i b o
  have hr:=hx _ rfl;cases hr with|ptr hm=>
  exact z3ba F hm h
 ·rename_i b o
  have hr:=hx _ rfl;cases hr
  split at h
  ·rename_i tg hgl
   obtain⟨zg,hm,_⟩:=F.glob _ _ hgl;have:=z3ba F hm h;rwa [Nat.zero_add] at this
  ·cases h
 ·cases h
theorem store_ok(F:Fits w0 m H w){t:TypeId}{a x:Option AV}{a' x':Value}(ha:∀v,a=some v→Rel m v a')(hx:∀v,x=some v→Rel m v x')(h:z252 P H t a x=some (nx,H')):
  ∃w',nx=.skip∧Fits w0 m H' w'∧(Instr.storeAt t a' x').run P w=.ok () w':=by
 unfold z252 at h
 split at h
 ·rename_i b o v
  have hr:=ha _ rfl;cases hr with|ptr hm=>
  split at h
  ·rename_i hc
   obtain⟨hlen,hi⟩:=hc;obtain⟨i,hi⟩:=Option.isSome_iff_exists.1 hi
   split at h
   ·rename_i H1 hp
    simp only[Option.some.injEq,Prod.mk.injEq] at h;obtain⟨rfl,rfl⟩:=h;have hrx:=hx _ rfl;obtain⟨F',hth,hone⟩:=z2a4 F hm hrx.cells hp;refine⟨_,rfl,F',?_⟩;have hl:=hrx.cells.length;have hst:=run_storeCells_cells (P:=P) _ _ x'.cells.toList 0 w (fun j hj=>by simpa using (hth j (by simpa using hj)).1) (fun j hj=>by simpa using (hth j (by simpa using hj)).2) hone;have hs:x'.cells.size=i.size:=by rw[←zaf hi, ←hlen,hl];simp
    simp only[Nat.add_zero] at hst
    simp[Instr.storeAt,Instr.sureAddr,storeVar,sizeOf,typeInfo,hi,hs,hst]
   ·cases h
  ·cases h
 ·cases h
theorem box_ok(F:Fits w0 m H w){e:TypeId}{x:Option AV}{x':Value}(hx:∀v,x=some v→Rel m v x')(h:zd9 H e x=some (nx,H')):ValPost w0 m H' nx ((do pure (Value.pointer (some (←newVar e x'))):Sem Value).run P w):=by
 unfold zd9 at h
 split at h
 ·rename_i v
  unfold z30d at h
  split at h
  ·rename_i hone
   simp only[Option.some.injEq,Prod.mk.injEq] at h;obtain⟨rfl,rfl⟩:=h;have hr:=(hx _ rfl).cells;have F':=z2b4 F e [] hr hone (fun _=>rfl);simp only[List.append_nil] at F';refine⟨_,_,_,.pointer (some ⟨w.heap.size,0,none⟩),Ext.append m _,F',rfl,?_,?_⟩
   ·simp[newVar,newRow]
   ·have := Rel.ptr (o := 0) (z162 F (w.heap.size, 0, x'.cells.toList.length))
    simpa using this
  ·cases h
 ·cases h
theorem alloc_ok(F:Fits w0 m H w){e:TypeId}(h:zd9 H e (z176 P e)=some (nx,H')):ValPost w0 m H' nx ((Instr.alloc e true (.tuple #[])).run P w):=by
 cases hz:z176 P e with
 |none=>rw[hz] at h;cases h
 |some z=>
  obtain⟨i,zv,hi,hzv,hrel,_,_⟩:=z1e9 m hz;have:=box_ok (P:=P) F (x':=zv) (fun v hv=>by rw[hz] at hv;cases hv;exact hrel) h
  have he:(Instr.alloc e true (.tuple #[])).run P w=((do pure (Value.pointer (some (←newVar e zv))):Sem Value).run P w):=by
   simp[Instr.alloc,zeroValue,typeInfo,hi,hzv]
  rw[he];exact this
theorem z24f(F:Fits w0 m H w){e:TypeId}{l:List AV}{vs:List Value}{n sz cap:Nat}{r:Result Value}(hr:RelL m l vs)(h:z83 H e l n sz=some (nx,H'))(hn:n≤cap)(hz:cap*sz≤vs.length)(hrun:r=.ok (.slice (some ⟨w.heap.size,0,none⟩) n cap) (w.alloc (.cells vs.toArray e))):ValPost w0 m H' nx r:=by
 unfold z83 at h
 split at h
 ·rename_i hone
  obtain⟨hone,_⟩:=hone;simp only[Option.some.injEq,Prod.mk.injEq] at h;obtain⟨rfl,rfl⟩:=h;have F':=z2b4 F e [] hr hone (fun _=>rfl);simp only[List.append_nil] at F';refine⟨_,_,_,_,Ext.append m _,F',rfl,hrun,?_⟩;have:=Rel.sl (o:=0) (sz:=sz) (z162 F (w.heap.size,0,vs.length)) hn (by omega)
  simpa using this
 ·cases h
theorem z24e(z:List Value)(n:Nat)(hz:0<z.length):((Array.range (n*z.length)).map (z.toArray[·%z.toArray.size]!)).toList=(List.replicate n z).flatten:=by
 apply List.ext_getElem?;intro i;have hl:(List.replicate n z).flatten.length=n*z.length:=by simp
 by_cases hi:i<n*z.length
 ·have hm : i % z.length < z.length := Nat.mod_lt _ hz
  have h1:((Array.range (n*z.length)).map (z.toArray[·%z.toArray.size]!)).toList[i]? =some z[i%z.length]:=by
   simp[hi,hm]
  rw[h1];clear h1
  have key:∀(n i:Nat),i<n*z.length→(List.replicate n z).flatten[i]? =some (z[i%z.length]'(Nat.mod_lt _ hz)):=by
   intro n
   induction n with
   |zero=>intro i hi;omega
   |succ n ih=>
    intro i hi;rw[List.replicate_succ,List.flatten_cons]
    by_cases h:i<z.length
    ·rw [List.getElem?_append_left h, List.getElem?_eq_getElem h]
     simp[Nat.mod_eq_of_lt h]
    ·rw [List.getElem?_append_right (by omega), ih (i - z.length) (by rw [Nat.add_mul] at hi; omega)]
     congr 2
     exact(Nat.mod_eq_sub_mod (by omega)).symm
  exact(key n i hi).symm
 ·rw[List.getElem?_eq_none (by simp;omega),List.getElem?_eq_none (by omega)]
theorem za5{t e:TypeId}(h:elemOf P t=some e):P.underlying t=some (.slice e):=by
 unfold elemOf at h
 split at h
 ·rename_i e' hu;cases h;exact hu
 ·cases h
theorem z370(F:Fits w0 m H w){ρ:z1be}{ρ':Operand→Value}{t:TypeId}{len:Nat}{parts:Array (Nat×Operand)}(hr:∀x∈parts.toList.map (·.2),∀v,ρ x=some v→Rel m v (ρ' x))(h:z16c P ρ H t len parts=some (nx,H')):
  ValPost w0 m H' nx ((Instr.buildSlice t len (parts.map fun (i,x)=>(i,ρ' x))).run P w):=by
 unfold z16c at h
 split at h
 ·rename_i e ps he hps
  have hu:=za5 he
  split at h
  ·rename_i z hz
   obtain⟨i,zv,hi,hzv,hrel,hl,hl'⟩:=z1e9 m hz;have hci:=zaf hi
   split at h
   ·split at h
    ·rename_i hnp
     have hp0:parts.toList=[]:=by
      cases hpl:parts.toList with
      |nil=>rfl
      |cons a l=>rw[hpl] at hnp;cases hnp
     have hp1:parts= #[]:=by simpa using hp0
     subst hp1;refine z24f F (vs:=[]) (cap:=0) .nil h (Nat.le_refl _) (by simp) ?_
     simp[Instr.buildSlice,run_underlying hu,sizeOf,typeInfo,hi,Instr.fill,newRow,Array.range_zero']
    ·cases h
   ·rename_i len
    split at h
    ·rename_i hc
     obtain⟨hsm,hpos⟩:=hc
     split at h
     ·rename_i cs hfill
      have hp:=z353 (m:=m) parts.toList ps hr hps;have hzl:zv.cells.toList.length=i.size:=by simpa using hl'
      have hcells:RelL m (List.replicate (len+1) z.cells).flatten (((Array.range ((len+1)*i.size)).map (zv.cells[·%zv.cells.size]!)).toList):=by
       have e1:=z24e zv.cells.toList (len+1) (by omega);rw[hzl] at e1;have e2:zv.cells.toList.toArray=zv.cells:=by simp
       rw[e2] at e1;rw[e1];exact hrel.cells.reps (len+1)
      obtain⟨r',h1,h2⟩:=z40a (pa:=fun i=>some (i*P.cellsOf e,P.cellsOf e)) (pv:=fun j=>some (j*i.size,i.size)) (fun j q hq=>by rw[hci] at hq;exact hq) ps _ _ _ cs hp hcells hfill;have hpl:(parts.map fun (i,x)=>(i,ρ' x)).toList=parts.toList.map fun (i,x)=>(i,ρ' x):=by simp
      have hrun:=run_buildSlice w t e (len+1) (parts.map fun (i,x)=>(i,ρ' x)) r' i zv hu hi hzv (by rw[←hci];omega) (by
       intro h0
       rcases Nat.mul_eq_zero.1 h0 with h0|h0
       ·omega
       ·rw[hci] at hpos;omega) (by rw[hpl];exact h1)
      have hlen:cs.length=(len+1)*P.cellsOf e:=by
       have:∀(ps:List (Nat×AV)) (cs r:List AV),z258 (fun i=>some (i*P.cellsOf e,P.cellsOf e)) cs ps=some r→r.length=cs.length:=by
        intro ps
        induction ps with
        |nil=>intro cs r h;simp only[z258,Option.some.injEq] at h;rw[h]
        |cons p ps ih=>
         intro cs r h;simp only[z258] at h
         split at h
         ·rw[ih _ _ h,z1fb]
         ·cases h
       rw[this _ _ _ hfill];simp only[List.length_flatten,List.map_replicate,List.sum_replicate_nat];rw[hl,hci]
      refine z24f F (vs:=r'.toList) (cap:=len+1) h2 h (Nat.le_refl _) (by rw[←h2.length,hlen];exact Nat.le_refl _) ?_;rw[hrun]
     ·cases h
    ·cases h
  ·cases h
 ·cases h
theorem z2d4{e:TypeId}{n:Nat}(h:zc9 P e n=true):∃i,P.info? e=some i∧n*i.bytes≤140737488355328∧n≤140737488355328∧1≤i.size∧∃z,i.zero=some z∧z.cells.size=i.size:=by
 unfold zc9 at h
 split at h
 ·rename_i i hi
  simp only[Bool.and_eq_true] at h;obtain⟨⟨⟨h1,h2⟩,h3⟩,h4⟩:=h;refine⟨i,hi,Nat.le_of_ble_eq_true h1,Nat.le_of_ble_eq_true h2,Nat.le_of_ble_eq_true h3,?_⟩;cases hz:i.zero with
  |none=>simp[hz] at h4
  |some z=>exact⟨z,rfl,by simpa [hz] using h4⟩
 ·cases h
theorem z3b7(F:Fits w0 m H w){t:TypeId}{a b:Option AV}{a' b':Value}(ha:∀v,a=some v→Rel m v a')(hb:∀v,b=some v→Rel m v b')(h:z11f P H t a b=some (nx,H')):
  ValPost w0 m H' nx ((Instr.makeSlice t a' b').run P w):=by
 unfold z11f at h
 split at h
 ·rename_i ka n kb c
  have e1:=z6c (ha _ rfl);have e2:=z6c (hb _ rfl);subst e1 e2
  split at h
  ·rename_i e he
   have hu:=za5 he
   split at h
   ·rename_i z hz
    obtain⟨i,zv,hi,hzv,hrel,hl,hl'⟩:=z1e9 m hz
    split at h
    ·rename_i hc
     obtain⟨hle,hbf⟩:=hc;have hle:=Nat.le_of_ble_eq_true hle;obtain⟨i',hi',h1,h2,h3,zz,h4,h5⟩:=z2d4 hbf;rw[hi] at hi';cases hi';have hci:=zaf hi;have hzl:zv.cells.toList.length=i.size:=by simpa using hl'
     have hb1:(i.bytes:Int)*(c:Int)≤281474976710656:=by
      have h6:((c*i.bytes:Nat):Int)≤140737488355328:=by omega
      rw[Int.natCast_mul,Int.mul_comm] at h6;omega
     have hrun:=run_make w t e i zv hu hi hzv ka kb (n:Int) (c:Int) (by omega) (by omega) hb1 (by omega);simp only[Int.toNat_natCast] at hrun
     have e1:(madeCells zv.cells (c*i.size)).toList=(List.replicate c zv.cells.toList).flatten:=by
      have e1:=z24e zv.cells.toList c (by omega);rw[hzl] at e1;have e2:zv.cells.toList.toArray=zv.cells:=by simp
      rw[e2] at e1;exact e1
     have e3:madeCells zv.cells (c*i.size)=((List.replicate c zv.cells.toList).flatten).toArray:=by rw[←e1]
     rw[e3] at hrun;refine z24f F (cap:=c) (hrel.cells.reps c) h hle ?_ hrun;simp only[List.length_flatten,List.map_replicate,List.sum_replicate_nat];rw[hzl,hci];exact Nat.le_refl _
    ·cases h
   ·cases h
  ·cases h
 ·cases h
end
end
noncomputable section
open Go.RowKit
section
variable {P:Program}{m:Map}{w0:Base}{w:World}{H H':AHeap}{nx:ANext}
def z377(P:Program)(w:World)(size n:Nat)(x:Value)(news:List Value):Prop:=∀w':World,(∀a,w'.cell? a=w.cell? a)→(Builtin.firstCells size n x).run P w'=.ok news.toArray w'
theorem z2bf{g o k cap size n:Nat}{cs:List Value}(hc:w.rangeAt g o cs)(hl:cs.length=n*size):z377 P w size n (.slice (some ⟨g,o,none⟩) k cap) cs:=fun w' hw=>
 run_firstCells_some w' size n ⟨g,o,none⟩ k cap cs hl (fun j v hv=>by rw[Addr.add_mid,hw];exact hc j v hv)
theorem z31a(size n k cap:Nat):z377 P w size n (.slice none k cap) []:=fun w' _=>run_firstCells_none w' size n k cap
theorem z407(a:Addr)(size k cap:Nat):z377 P w size 0 (.slice (some a) k cap) []:=fun w' _=>run_firstCells_some w' size 0 a k cap [] (by simp) (fun j v hv=>by simp at hv)
def z57(l:List UInt8):List Value:=l.map fun b=>.int .u8 b.toNat
theorem z3c4(s:ByteArray)(size n:Nat):z377 P w size n (.string s) (z57 (s.data.toList.take n)):=fun w' _=>by
 simp only[Builtin.firstCells,Sem.run_pure]
 congr 1
 apply Array.ext'
 simp[z57]
theorem run_append_room'{t u e:TypeId}{i:TypeInfo}{ud:TypeDesc}(ts:Array TypeId)(ty:TypeId)(h0:ts[0]? =some t)(h1:ts[1]? =some u)(ht:P.underlying t=some (.slice e))(hu:P.underlying u=some ud)(hud:∀k,ud≠ .int k)(hi:P.info? e=some i){g o sLen sCap n:Nat}{x:Value}{news:List Value}(hl:(Builtin.lenOf x).run P w=.ok n w)(hn:z377 P w i.size n x news)(hroom:sLen+n≤sCap)(hth:w.there g (o+sLen*i.size) news.length)(hone:∀v∈news,v.oneCell'=true):
  (Builtin.append_ ts ty #[.slice (some ⟨g,o,none⟩) sLen sCap,x]).run P w=.ok (.slice (some ⟨g,o,none⟩) (sLen+n) sCap) (w.setCells g (o+sLen*i.size) news):=by
 have hst:=run_storeCells_cells (P:=P) g (o+sLen*i.size) news 0 w (fun j hj=>by simpa using (hth j hj).1) (fun j hj=>by simpa using (hth j hj).2) hone;simp only[Nat.add_zero] at hst;have hz:(match ud with| .int _=>true|_=>false)=false:=by cases ud<;>first|rfl|exact absurd rfl (hud _)
 have hf:=hn w (fun _=>rfl);have hadd:(⟨g,o,none⟩:Addr).add (sLen*i.size)=⟨g,o+sLen*i.size,none⟩:=Addr.add_mid _ _ _
 simp[Builtin.append_,h0,h1,run_underlying ht,run_underlying hu,sizeOf,typeInfo,hi,hl,hroom,hf,hadd,hst]
theorem run_append_grow'{t u e:TypeId}{i:TypeInfo}{z:Value}{ud:TypeDesc}(ts:Array TypeId)(ty:TypeId)(h0:ts[0]? =some t)(h1:ts[1]? =some u)(ht:P.underlying t=some (.slice e))(hu:P.underlying u=some ud)(hud:∀k,ud≠ .int k)(hi:P.info? e=some i)(hz:i.zero=some z){base:Option Addr}{sLen sCap n:Nat}{x:Value}{olds news:List Value}(hl:(Builtin.lenOf x).run P w=.ok n w)(ho:z377 P w i.size sLen (.slice base sLen sCap) olds)(hn:z377 P w i.size n x news)(hg:sCap<sLen+n)(h63:sLen+n≤9223372036854775807)(hfit:Builtin.nextslicecap (sLen+n) sCap*i.bytes≤281474976710656):
  (Builtin.append_ ts ty #[.slice base sLen sCap,x]).run P w=.ok (.slice (some ⟨w.heap.size,0,none⟩) (sLen+n) (grownCap w (sLen+n) sCap e))
    (w.drew.alloc (.cells ((olds++news)++(Builtin.zeroCells z.cells (grownCap w (sLen+n) sCap e - (sLen+n))).toList).toArray e)):=by
 have hz':(match ud with| .int _=>true|_=>false)=false:=by cases ud<;>first|rfl|exact absurd rfl (hud _)
 have hn1:¬(sLen+n≤sCap):=by omega
 have h63':¬(9223372036854775807<((sLen:Int)+(n:Int))):=by omega
 have h48':¬(281474976710656<Builtin.nextslicecap (sLen+n) sCap*i.bytes):=by omega
 have hf:=hn w.drew (fun _=>rfl);have hfo:=ho w.drew (fun _=>rfl)
 simp[Builtin.append_,h0,h1,run_underlying ht,run_underlying hu,sizeOf,typeInfo,zeroValue,hi,hz,hl,hn1,h63',h48',Question.forced,hf,hfo,newRow,grownCap]
 congr 2
 apply Array.ext'
 simp
theorem z1f2(m:Map):∀(l:List UInt8) (n:Nat),n≤l.length→RelL m (z13e n (enc l)) (z57 (l.take n))
 |l,0,_=>by simpa [z13e,z57] using RelL.nil
 |[],n+1,h=>by simp at h
 |b::l,n+1,h=>by
  have hb:=z49f b;have e1:enc (b::l)%256=b.toNat:=by rw[zb2];omega
  have e2:enc (b::l)/256=enc l:=by rw[zb2];omega
  simp only[z13e,e1,e2,List.take_succ_cons,z57,List.map_cons];exact .cons (.int .u8 _) (z1f2 m l n (by simpa using h))
theorem z36f(l:List UInt8):∀v∈z57 l,v.oneCell'=true:=by
 intro v hv;unfold z57 at hv;obtain⟨b,_,rfl⟩:=List.mem_map.1 hv;rfl
theorem z28e(F:Fits w0 m H w){x:AV}{x':Value}(hx:Rel m x x'){k n size:Nat}{l:List AV}(hk:z205 x=some k)(hn:n≤k)(h:z10d H size n x=some l):
  (Builtin.lenOf x').run P w=.ok k w∧∃l',RelL m l l'∧l'.length=n*size∧z377 P w size n x' l':=by
 unfold z10d at h
 split at h
 ·split at h
  ·rename_i b o q sz hc
   obtain⟨rfl,hq⟩:=hc;cases hx with|sl hm h1 h2=>
   simp only[z205,Option.some.injEq] at hk;subst hk;obtain⟨l',r1,r2,r3,r4⟩:=z17b F hm h;exact⟨by simp[Builtin.lenOf],l',r1,r2,z2bf r3 r2⟩
  ·cases h
 ·split at h
  ·rename_i h0
   simp only[Option.some.injEq] at h;subst h;subst h0;cases hx;simp only[z205,Option.some.injEq] at hk;subst hk;exact⟨by simp[Builtin.lenOf],[],.nil,by simp,z407 _ _ _ _⟩
  ·cases h
 ·split at h
  ·rename_i h0
   simp only[Option.some.injEq] at h;subst h;subst h0;cases hx;simp only[z205,Option.some.injEq] at hk;subst hk;exact⟨by simp[Builtin.lenOf],[],.nil,by simp,z31a _ _ _ _⟩
  ·cases h
 ·split at h
  ·rename_i a b hle
   obtain⟨hle,hs1⟩:=hle;simp only[Option.some.injEq] at h;subst h;cases hx with|str s h1 h2=>
   simp only[z205,Option.some.injEq] at hk;subst hk;refine⟨by simp only[Builtin.lenOf,Sem.run_pure];rw[zc7,h1],z57 (s.data.toList.take n),?_,?_,z3c4 s size n⟩
   ·rw[←h2];exact z1f2 m _ n (by rw[h1];exact hn)
   ·rw[hs1,Nat.mul_one];simp only[z57,List.length_map,List.length_take];rw[h1];exact Nat.min_eq_left hn
  ·cases h
 ·cases h
theorem z420(F:Fits w0 m H w){b o k n sz g s z cap:Nat}{e:TypeId}{cs news:List AV}{news':List Value}(hm:m[b]? =some (some (g,s,z)))(hz:s+o+cap*sz≤z)(hcs:z44 H b o (k*sz)=some cs)(he:z91 H b=some e)(hnews:RelL m news news')(hone:∀v∈news',v.oneCell'=true)(hnl:news'.length=n*sz)(hroom:k+n≤cap)(hex:zbf e H.ex=false):
  Fits w0 (m++[some (g,s+o,z)]) ((H.put b .dead).new (zb0 (cs++news) e)) (w.setCells g (s+o+k*sz) news')∧w.there g (s+o+k*sz) news'.length:=by
 have hrow:∃N t,H.get b=some (.row N t e):=by
  unfold z91 at he
  split at he
  ·rename_i N t e' hr
   simp only[Option.some.injEq] at he;subst he;exact⟨N,t,hr⟩
  ·cases he
 obtain⟨N,t,hrow⟩:=hrow;obtain⟨cs',hr1,hr2,hr3,hr4⟩:=z17b F hm hcs;obtain⟨hB,c,fz,hc,hzz,hs,hf,hnone,hcell⟩:=F.row b N t e g s z hrow hm;obtain⟨c',hc2,hsz2,hget⟩:=z190 g e fz news' (s+o+k*sz) c w hc;have hfit:(k+n)*sz≤cap*sz:=Nat.mul_le_mul_right _ hroom;rw[Nat.add_mul] at hfit;have hlt:=F.lt_next hrow;have Fk:=F.kill hlt
 have hothers:∀b' o' g' s' z',(H.put b .dead).get b'=some o'→o'.alive=true→m[b']? =some (some (g',s',z'))→g'≠g:=by
  intro b' o' g' s' z' h1 h2 h3 eg;subst eg
  by_cases eb:b=b'
  ·subst eb;rw[z1f] at h1;cases h1;cases h2
  ·rw [z16 _ eb] at h1
   exact F.sep b b' _ o' g' s z s' z' eb hrow h1 rfl h2 hm h3
 have Fw:Fits w0 m (H.put b .dead) (w.setCells g (s+o+k*sz) news'):=Fk.world (z175 hB news' _ _ F.below) (fun b' o' g' s' z' h1 h2 h3=>z129 g g' (hothers b' o' g' s' z' h1 h2 h3) news' _ _) (fun k' o' hk'=>z129 g k' (fun e=>(F.pin k' o' hk').2 b _ s z hrow rfl (by rw[e];exact hm)) news' _ _) (by rw[z211];exact Nat.le_refl _);have hlc:=hr1.length;have hln:=hnews.length;constructor
 ·refine Fw.new _ (fun b' o' s' z' h1 h2 h3 => hothers b' o' g s' z' h1 h2 h3 rfl) (fun n' t' e' he' => ?_) (fun es he' => by cases he') (fun n' t' e' he' hx => by unfold zb0 at he'; cases he'; rw [show ((H.put b .dead).ex) = H.ex from rfl, hex] at hx; cases hx) (hpin := fun k' o' hk' _ e => (F.pin k' o' hk').2 b _ s z hrow rfl (by rw [← e]; exact hm))
  unfold zb0 at he';cases he';refine⟨hB,c',fz,hc2,by omega,by simp only[List.length_append];omega,hf,fun i hi=>?_,fun i hi=>?_⟩
  ·rw[zd3,List.getElem?_eq_none hi]
  ·simp only [List.length_append] at hi
   by_cases hik:i<cs.length
   ·have hx : cs[i]? = some cs[i] := List.getElem?_eq_getElem hik
    obtain⟨y,hy,hxy⟩:=hr1.get i _ hx;refine⟨cs[i],y,by rw[zd3,List.getElem?_append_left hik];exact hx,?_,hxy.mono (ye m _),hr4 y (List.mem_of_getElem? hy)⟩;rw[hget _ (by omega),if_neg (by omega)];have:=hr3 i y hy;rw[cell_of_row w g _ c e fz hc] at this;exact this
   ·have hj : i - cs.length < news.length := by omega
    have hx:news[i - cs.length]? =some (news[i - cs.length]'hj):=List.getElem?_eq_getElem hj;obtain⟨y,hy,hxy⟩:=hnews.get _ _ hx;refine⟨_,y,by rw[zd3,List.getElem?_append_right (by omega)];exact hx,?_,hxy.mono (ye m _),hone y (List.mem_of_getElem? hy)⟩;rw[hget _ (by omega),if_pos (by omega),show s+o+i - (s+o+k*sz)=i - cs.length by omega];exact hy
 ·intro j hj
  have hltj:s+o+k*sz+j<c.size:=by omega
  refine⟨by rw[cell_of_row w g _ c e fz hc,Array.getElem?_eq_getElem hltj];rfl,?_⟩;have:=hf (s+o+k*sz+j) (by omega);have hfz:fz=(fz.1,fz.2):=rfl;simp only[World.frozen?,hc];rw[hfz];simp only[Bool.and_eq_false_imp,decide_eq_true_eq,decide_eq_false_iff_not];intro h1 h2;exact this ⟨h1,h2⟩
theorem z235(F:Fits w0 m H w){t u:TypeId}{s x:AV}{s' x':Value}(hs:Rel m s s')(hx:Rel m x x')(ts:Array TypeId)(ty:TypeId)(h0:ts[0]? =some t)(h1:ts[1]? =some u)(h:z34 P H t u s x=some (nx,H')):
  ValPost w0 m H' nx ((Builtin.append_ ts ty #[s',x']).run P w):=by
 unfold z34 at h
 split at h
 ·rename_i e k n ud he hk hn hu
  have ht:=za5 he
  split at h
  ·cases h
  ·rename_i hud
   split at h
   ·rename_i news hnews
    split at h
    ·rename_i hc
     obtain⟨hbf,hone,hexb⟩:=hc;have hexn:zbf e H.ex=false:=hexb;obtain⟨i,hi,hb1,hb2,hb3,z,hz,hzs⟩:=z2d4 hbf;have hci:=zaf hi;rw[hci] at hnews h;obtain⟨hlen,news',hr,hnl0,hgv⟩:=z28e (P:=P) F hx hn (Nat.le_refl n) hnews;have hones:=hr.one hone;have hud':∀k,ud≠ .int k:=fun k e=>hud k e
     -- the row that has just been made
     have grown:∀{Hk:AHeap} {olds:List AV} {olds':List Value} {sCap:Nat} {base:Option Addr},Fits w0 m Hk w→Hk.ex=H.ex→RelL m olds olds'→(∀v∈olds',v.oneCell'=true)→olds'.length=k*i.size→news'.length=n*i.size→sCap<k+n→s'=.slice base k sCap→z377 P w i.size k (.slice base k sCap) olds'→
       nx=.val (.sl Hk.next 0 (k+n) i.size)→H'=Hk.new (zb0 (olds++news) e)→ValPost w0 m H' nx ((Builtin.append_ ts ty #[s',x']).run P w):=by
      intro Hk olds olds' sCap base Fk hke ho hoo hol hnl hcap hs' hgo e1 e2;subst e1 e2 hs';have hfit:=growslice_fits (bytes:=i.bytes) hcap (by omega);have hrun:=run_append_grow' (P:=P) (w:=w) ts ty h0 h1 ht hu hud' hi hz hlen hgo hgv hcap (by omega) hfit;have hge:=grownCap_ge w (k+n) sCap e;have hal:(olds++news).all AV.one=true∨True:=.inr trivial;have hro:=ho.append hr;have hones2:∀v∈olds'++news',v.oneCell'=true:=fun v hv=>by rcases List.mem_append.1 hv with hv|hv;exact hoo v hv;exact hones v hv
      have F2:=z359 Fk.drew (w':=w.drew.alloc (.cells ((olds'++news')++(Builtin.zeroCells z.cells (grownCap w (k+n) sCap e - (k+n))).toList).toArray e)) (c:=((olds'++news')++(Builtin.zeroCells z.cells (grownCap w (k+n) sCap e - (k+n))).toList).toArray) (e:=e) (fz:=(0,0))
       (Fk.drew.below.alloc Fk.drew.size _) (fun q hq=>Below.heap_alloc _ _ _ hq) (heap_alloc_new w.drew _) (fun i _=>by simp) (by simp) (fun i hi=>by rw[List.getElem?_toArray,List.getElem?_append_left hi]) hro hones2 (fun hx=>by rw[hke,hexn] at hx;cases hx)
      refine⟨_,_,_,_,Ext.append m _,F2,rfl,hrun,?_⟩;have hmn:=z162 Fk (w.drew.heap.size,0,((olds'++news')++(Builtin.zeroCells z.cells (grownCap w (k+n) sCap e - (k+n))).toList).toArray.size)
      have:=Rel.sl (o:=0) (n:=k+n) (sz:=i.size) (cap:=grownCap w (k+n) sCap e) hmn hge (by
       simp only[List.size_toArray,List.length_append,Array.length_toList,size_zeroCells,hzs,hol,hnl];rw[←Nat.add_mul, ←Nat.add_mul];have:k+n+(grownCap w (k+n) sCap e - (k+n))=grownCap w (k+n) sCap e:=by omega
       rw[this];omega)
      simpa using this
     unfold z2da at h
     split at h
     ·cases hs
      simp only[z205,Option.some.injEq] at hk;subst hk
      split at h
      ·-- nothing onto nil
       simp only[Option.some.injEq,Prod.mk.injEq] at h;obtain⟨rfl,rfl⟩:=h;have hn0:news'=[]:=List.eq_nil_of_length_eq_zero (by omega);subst hn0;refine(PureOK.post F ⟨.nsl,.slice none 0 0,rfl,rfl,?_,.nsl⟩);have hf:=hgv w (fun _=>rfl)
       simp[Builtin.append_,h0,h1,run_underlying ht,run_underlying hu,sizeOf,typeInfo,hi,hlen,hf]
      ·rename_i n'
       simp only[Option.some.injEq,Prod.mk.injEq] at h;obtain⟨rfl,rfl⟩:=h;exact grown (olds:=[]) (olds':=[]) (sCap:=0) (base:=none) F rfl .nil (by simp) (by simp) hnl0 (by omega) rfl (z31a _ _ _ _) (by simp) (by simp)
     ·rename_i b o k' sz
      simp only[z205,Option.some.injEq] at hk;subst hk
      split at h
      ·simp only [Option.some.injEq, Prod.mk.injEq] at h
       obtain⟨rfl,rfl⟩:=h;have hn0:news'=[]:=List.eq_nil_of_length_eq_zero (by omega);subst hn0;cases hs with| @sl _ _ _ _ cap g s0 z0 hm hcap hzz=>
       refine(PureOK.post F ⟨_,_,rfl,rfl,?_,.sl hm hcap hzz⟩);have hrun:=run_append_room' (P:=P) (w:=w) (g:=g) (o:=s0+o) (sCap:=cap) ts ty h0 h1 ht hu hud' hi hlen hgv (by omega) (fun j hj=>by simp at hj) (by simp);rw[hrun]
       simp[World.setCells]
      ·rename_i n'
       split at h
       ·rename_i hsz
        subst hsz;unfold z2d9 at h
        split at h
        ·rename_i cs e' hcs he'
         split at h
         ·rename_i hee
          have hee:=Nat.eq_of_beq_eq_true hee;subst hee;simp only[Option.some.injEq,Prod.mk.injEq] at h;obtain⟨e1,e2⟩:=h;cases hs with| @sl _ _ _ _ cap g s0 z0 hm hcap hzz=>
          by_cases hroom:k'+(n'+1)≤cap
          ·obtain ⟨F2, hth⟩ := z420 F hm hzz hcs he' hr hones hnl0 hroom hexn
           have hrun:=run_append_room' (P:=P) (w:=w) ts ty h0 h1 ht hu hud' hi hlen hgv hroom hth hones;subst e1 e2;refine⟨_,_,_,_,Ext.append m _,F2,rfl,hrun,?_⟩;have hF:=F.len;have hmn:(m++[some (g,s0+o,z0)])[H.next]? =some (some (g,s0+o,z0)):=z162 F _;have:=Rel.sl (o:=0) (n:=k'+(n'+1)) (sz:=i.size) (cap:=cap) hmn hroom (by omega)
           simpa using this
          ·obtain ⟨cs', r1, r2, r3, r4⟩ := z17b F hm hcs
           have hrow:∃N t,H.get b=some (.row N t e'):=by
            unfold z91 at he'
            split at he'
            ·rename_i N t e2 hr2
             simp only[Option.some.injEq] at he';subst he';exact⟨N,t,hr2⟩
            ·cases he'
           obtain⟨N,tt,hrow⟩:=hrow;exact grown (Hk:=H.put b .dead) (F.kill (F.lt_next hrow)) rfl r1 r4 r2 hnl0 (by omega) rfl (z2bf r3 r2) e1.symm e2.symm
         ·cases h
        ·cases h
       ·cases h
     ·cases h
    ·cases h
   ·cases h
 ·cases h
end
end
noncomputable section
open Go.RowKit
section
variable {P:Program}{m:Map}{w0:Base}{w:World}{H H':AHeap}{nx:ANext}
theorem z417(F:Fits w0 m H w){t:TypeId}{d s:AV}{d' s':Value}(hd:Rel m d d')(hs:Rel m s s')(ts:Array TypeId)(ty:TypeId)(h0:ts[0]? =some t)(h:z30f P H t d s=some (nx,H')):
  ValPost w0 m H' nx ((Builtin.copy_ ts ty #[d',s']).run P w):=by
 unfold z30f at h
 split at h
 ·rename_i e k n he hk hn
  have ht:=za5 he
  split at h
  ·rename_i cs hcs
   split at h
   ·rename_i b o q sz
    split at h
    ·rename_i hsz
     obtain⟨hsz,hinfo⟩:=hsz
     split at h
     ·rename_i H1 hput
      simp only[Option.some.injEq,Prod.mk.injEq] at h;obtain⟨rfl,rfl⟩:=h;simp only[z205,Option.some.injEq] at hk;subst hk;cases hd with| @sl _ _ _ _ cap g s0 z0 hm hcap hzz=>
      obtain⟨hlen,cs',hr,hnl,hgv⟩:=z28e (P:=P) F hs hn (Nat.min_le_left n q) hcs;obtain⟨F',hth,hone⟩:=z2a4 F hm hr hput;obtain⟨i,hi⟩:=Option.isSome_iff_exists.1 hinfo;have hci:=zaf hi;have hst:=run_storeCells_cells (P:=P) g (s0+o) cs' 0 w (fun j hj=>by simpa using (hth j hj).1) (fun j hj=>by simpa using (hth j hj).2) hone;simp only[Nat.add_zero] at hst;have hf:=hgv w (fun _=>rfl);rw[hci] at hf;refine⟨m,_,_,.int .i64 ((Nat.min n q:Nat):Int),Ext.refl m,F',rfl,?_,.int .i64 _⟩;have hmin:Nat.min n q=min n q:=rfl;rw[hmin] at *
      simp[Builtin.copy_,h0,run_underlying ht,hlen,sizeOf,typeInfo,hi,hf,hst,goInt]
     ·cases h
    ·cases h
   ·split at h
    ·split at h
     ·rename_i hinfo
      simp only[Option.some.injEq,Prod.mk.injEq] at h;obtain⟨rfl,rfl⟩:=h;simp only[z205,Option.some.injEq] at hk;subst hk;cases hd with|esl a cap=>
      obtain⟨hlen,cs',hr,hnl,hgv⟩:=z28e (P:=P) F hs hn (Nat.min_le_left n 0) hcs;cases hr;obtain⟨i,hi⟩:=Option.isSome_iff_exists.1 hinfo;have hci:=zaf hi;have hf:=hgv w (fun _=>rfl);rw[hci] at hf;refine⟨m,_,_,.int .i64 ((Nat.min n 0:Nat):Int),Ext.refl m,F,rfl,?_,.int .i64 _⟩;rw[show min n 0=0 from Nat.min_zero n] at hf
      simp[Builtin.copy_,h0,run_underlying ht,hlen,sizeOf,typeInfo,hi,hf,goInt,storeCells]
     ·cases h
    ·cases h
   ·split at h
    ·split at h
     ·rename_i hinfo
      simp only[Option.some.injEq,Prod.mk.injEq] at h;obtain⟨rfl,rfl⟩:=h;simp only[z205,Option.some.injEq] at hk;subst hk;cases hd with|nsl=>
      obtain⟨hlen,cs',hr,hnl,hgv⟩:=z28e (P:=P) F hs hn (Nat.min_le_left n 0) hcs;cases hr;obtain⟨i,hi⟩:=Option.isSome_iff_exists.1 hinfo;have hci:=zaf hi;have hf:=hgv w (fun _=>rfl);rw[hci] at hf;refine⟨m,_,_,.int .i64 ((Nat.min n 0:Nat):Int),Ext.refl m,F,rfl,?_,.int .i64 _⟩;rw[show min n 0=0 from Nat.min_zero n] at hf
      simp[Builtin.copy_,h0,run_underlying ht,hlen,sizeOf,typeInfo,hi,hf,goInt]
     ·cases h
    ·cases h
   ·cases h
  ·cases h
 ·cases h
theorem zd2{g clock:Nat}{es:Array MapEntry}(h:w.heap[g]? =some (.map es clock)):(getObj g).run P w=.ok (.map es clock) w:=by simp[getObj,Sem.run,h]
theorem len_ok(F:Fits w0 m H w){t:TypeId}{x:AV}{x':Value}(hx:Rel m x x')(ts:Array TypeId)(ty:TypeId)(h0:ts[0]? =some t)(h:z21b P H t x=some (nx,H')):PureOK m w H nx H' ((Builtin.len_ ts ty #[x']).run P w):=by
 unfold z21b at h
 split at h
 ·rename_i n e hu
  exact z37 (v':=.int .i64 (n:Int)) h (by simp[Builtin.len_,h0,run_underlying hu,goInt]) (.int .i64 _)
 ·rename_i hu
  split at h
  ·cases hx with | str s h1 h2 =>
   exact z37 (v':=.int .i64 (s.size:Int)) h (by simp[Builtin.len_,h0,run_underlying hu,goInt]) (by rw[zc7,h1];exact .int .i64 _)
  ·cases h
 ·rename_i e hu
  split at h
  ·cases hx
   exact z37 (v':=.int .i64 _) h (by simp[Builtin.len_,h0,run_underlying hu,goInt]) (.int .i64 _)
  ·cases hx
   exact z37 (v':=.int .i64 _) h (by simp[Builtin.len_,h0,run_underlying hu,goInt]) (.int .i64 _)
  ·cases hx
   exact z37 (v':=.int .i64 _) h (by simp[Builtin.len_,h0,run_underlying hu,goInt]) (.int .i64 _)
  ·cases h
 ·rename_i kt et hu
  split at h
  ·rename_i es hes
   unfold z223 at hes
   split at hes
   ·simp only [Option.some.injEq] at hes; subst hes
    cases hx;exact z37 (v':=.int .i64 _) h (by simp[Builtin.len_,h0,run_underlying hu,goInt]) (.int .i64 _)
   ·rename_i b
    split at hes
    ·rename_i es' hb
     simp only[Option.some.injEq] at hes;subst hes;cases hx with|mp hm=>
     obtain⟨_,_,_,es2,clock,hheap,hrel⟩:=F.map b es' _ _ _ hb hm
     have hl:es'.length=es2.size:=by
      have:∀{a:List (AV×AV)} {c:List MapEntry},RelM m a c→a.length=c.length:=by
       intro a c hac
       induction hac with
       |nil=>rfl
       |cons _ _ _ ih=>simp[ih]
      rw[this hrel];simp
     have hget:=zd2 (P:=P) hheap;exact z37 (v':=.int .i64 (es2.size:Int)) h (by simp[Builtin.len_,h0,run_underlying hu,goInt,hget]) (by rw[hl];exact .int .i64 _)
    ·cases hes
   ·cases hes
  ·cases h
 ·cases h
theorem z311(k:IntKind):∀(l:List AV) (l':List Value) (a:Int) (v:AV),RelL m l l'→z2b6 k a l=some v→∃v',(l'.foldlM Builtin.min2 (.int k a)).run P w=.ok v' w∧Rel m v v'
 |[],_,a,v,hl,h=>by
  cases hl;simp only[z2b6,Option.some.injEq] at h;subst h;exact⟨_,rfl,.int k a⟩
 |x::l,_,a,v,hl,h=>by
  cases hl with|cons hx hl=>
  unfold z2b6 at h
  split at h
  ·rename_i e;cases e
  ·rename_i e
   cases e
   cases hx;obtain⟨v',h1,h2⟩:=z311 k l _ _ v hl h;refine⟨v',?_,h2⟩;simp only[List.foldlM_cons,Sem.run_bind,Builtin.min2,Sem.run_pure,Result.andThen_ok];exact h1
  ·cases h
theorem z312(k:IntKind):∀(l:List AV) (l':List Value) (a:Int) (v:AV),RelL m l l'→z2b7 k a l=some v→∃v',(l'.foldlM Builtin.max2 (.int k a)).run P w=.ok v' w∧Rel m v v'
 |[],_,a,v,hl,h=>by
  cases hl;simp only[z2b7,Option.some.injEq] at h;subst h;exact⟨_,rfl,.int k a⟩
 |x::l,_,a,v,hl,h=>by
  cases hl with|cons hx hl=>
  unfold z2b7 at h
  split at h
  ·rename_i e;cases e
  ·rename_i e
   cases e
   cases hx;obtain⟨v',h1,h2⟩:=z312 k l _ _ v hl h;refine⟨v',?_,h2⟩;simp only[List.foldlM_cons,Sem.run_bind,Builtin.max2,Sem.run_pure,Result.andThen_ok];exact h1
  ·cases h
theorem z3b5{x:Option AV}{x':Value}(hx:∀v,x=some v→Rel m v x')(h:z3b2 H x=some (nx,H'))(o:Oper)(y:Operand)(ρ':Operand→Value)(ho:o.op=.nilCheck y)(hy:ρ' y=x'):∃v v',nx=.val v∧H'=H∧(execOp ρ' o).run P w=.ok (.value v') w∧Rel m v v':=by
  unfold z3b2 at h
  split at h
  all_goals first
    |(cases h;done)
    | (simp only [Option.some.injEq, Prod.mk.injEq] at h
       obtain⟨rfl,rfl⟩:=h;have hr:=hx _ rfl;refine⟨_,x',rfl,rfl,?_,hr⟩;cases hr
       simp[execOp,ho,hy])
theorem un_ok{op:UnOp}{x:Option AV}{x':Value}(hx:∀v,x=some v→Rel m v x')(h:opUn H op x=some (nx,H')):PureOK m w H nx H' ((Op.unary op x').run P w):=by
 unfold opUn at h
 split at h
 ·have hr := z6c (hx _ rfl)
  subst hr
  split at h
  ·exact z37 (v':=.int _ _) h (by simp only[Op.unary,Op.intArith];rfl) (.int _ _)
  ·exact z37 (v':=.int _ _) h (by simp only[Op.unary,Op.intBits];rfl) (.int _ _)
  ·cases h
 ·have hr := zb1 (hx _ rfl)
  subst hr
  split at h
  ·exact z37 (v':=.bool _) h (by simp only[Op.unary];rfl) (.bool _)
  ·cases h
 ·cases h
theorem z2d5:∀(cs:List AV) (cs':List Value) (n v:Nat),RelL m cs cs'→z1bd cs=some (n,v)→∃l:List UInt8,cs'=z57 l∧l.length=n∧enc l=v
 |[],cs',n,v,hr,h=>by
  cases hr;simp only[z1bd,Option.some.injEq,Prod.mk.injEq] at h;obtain⟨rfl,rfl⟩:=h;exact⟨[],rfl,rfl,rfl⟩
 |x::cs,cs',n,v,hr,h=>by
  cases hr with|cons hx hr=>
  unfold z1bd at h
  split at h
  ·rename_i e;cases e
  ·rename_i b l e
   cases e
   split at h
   ·rename_i n' v' hb
    split at h
    ·rename_i hlt
     have hlt:=Nat.le_of_ble_eq_true hlt;simp only[Option.some.injEq,Prod.mk.injEq] at h;obtain⟨rfl,rfl⟩:=h;obtain⟨l',rfl,h2,h3⟩:=z2d5 _ _ n' v' hr hb;cases hx
     have hbt:(UInt8.ofNat b).toNat=b:=by
      simp only[UInt8.toNat_ofNat'];omega
     refine⟨UInt8.ofNat b::l',?_,by simp[h2],?_⟩
     ·simp only [z57, List.map_cons, hbt]
      rfl
     ·rw[zb2,hbt,h3]
    ·cases h
   ·cases h
  ·cases h
theorem z3d4{s d:TypeId}{o n cap g s0:Nat}{r:Result Value}{cs:Option (List AV)}(hcs:∀l,cs=some l→∃l',RelL m l l'∧l'.length=n∧w.rangeAt g (s0+o) l')(hr:r=(convert s d (.slice (some ⟨g,s0+o,none⟩) n cap)).run P w)(h:ze0 P H s d cs=some (nx,H')):
  PureOK m w H nx H' r:=by
 unfold ze0 at h
 split at h
 ·rename_i e hd hs
  split at h
  ·rename_i cs he
   split at h
   ·rename_i k v hb
    obtain⟨l',h1,h2,h3⟩:=hcs _ rfl;obtain⟨l,rfl,h4,h5⟩:=z2d5 _ _ k v h1 hb;have hn:n=l.length:=by rw[←h2];simp[z57]
    subst hn
    have hrun:=run_convert_bytes_back w s d e ⟨g,s0+o,none⟩ cap l hs he hd (fun j hj=>by
     rw[Addr.add_mid];exact h3 j _ (by simp[z57,hj]))
    rw[hr];exact z37 h hrun (.str _ (by simpa using h4) (by simpa using h5))
   ·cases h
  ·cases h
 ·cases h
theorem z234{a b:Nat}(h:Nat.blt a b=true):a<b:=Nat.le_of_ble_eq_true h
theorem z48a(F:Fits w0 m H w){s d:TypeId}{b o:Nat}{x':Value}(hx:Rel m (.ptr b o) x')(h:z261 P H s d b o=some (nx,H')):PureOK m w H nx H' ((convert s d x').run P w):=by
 cases hx with| @ptr _ _ g s0 z hm=>
 unfold z261 at h
 split at h
 ·rename_i t hs
  split at h
  ·rename_i i n T e hd hi hrow
   split at h
   ·rename_i hc
    obtain⟨h1,h2⟩:=hc;have h1:=z234 h1;obtain⟨_,c,fz,hheap,hz,hsz,_,_,_⟩:=F.row b n T e g s0 z hrow hm;have hsh:w.shape? g=some (e,z):=by simp[World.shape?,hheap,hz]
    exact z37 h (Lib.run_to_unsafe w ⟨g,s0+o,none⟩ hs hd hi (fun e0=>by rw[e0] at h2;cases h2) hsh (by simp only;omega)) (.ptr hm)
   ·cases h
  ·cases h
 ·rename_i hs
  split at h
  ·rename_i u n T e hd hrow
   split at h
   ·rename_i hc
    obtain⟨h1,h2,h3⟩:=hc;obtain⟨i,hi⟩:=Option.isSome_iff_exists.1 h3;obtain⟨_,c,fz,hheap,hz,hsz,_,_,_⟩:=F.row b n T e g s0 z hrow hm;obtain⟨⟨rfl,rfl⟩,_⟩:=F.exact b n T e g s0 z hrow hm h1;have hsh:w.shape? g=some (e,z):=by simp[World.shape?,hheap,hz]
    exact z37 h (Lib.run_from_unsafe w ⟨g,0+o,none⟩ hs hd hi hsh (by simpa using h2)) (.ptr hm)
   ·cases h
  ·cases h
 ·cases h
theorem conv_ok(F:Fits w0 m H w){s d:TypeId}{x:Option AV}{x':Value}(hx:∀v,x=some v→Rel m v x')(h:z7b P H s d x=some (nx,H')):ValPost w0 m H' nx ((convert s d x').run P w):=by
 unfold z7b at h
 split at h
 ·exact PureOK.post F (z48a F (hx _ rfl) h)
 ·rename_i k n
  have hr:=z6c (hx _ rfl);subst hr
  split at h
  ·rename_i sd kd hs hd
   refine PureOK.post F (z37 (v':=.int _ _) h ?_ (.int _ _))
   simp[convert,run_underlying hs,run_underlying hd,Conv.intToInt]
  ·cases h
 ·rename_i n v
  cases hx _ rfl with|str str h1 h2=>
  obtain rfl:n=str.size:=by rw[←h1,zc7]
  split at h
  ·rename_i hs
   unfold z36c at h
   split at h
   ·rename_i hd
    refine PureOK.post F (z37 (v':=.string str) h ?_ (.str str h1 h2))
    simp[convert,run_underlying hs,run_underlying hd]
   ·rename_i e hd
    split at h
    ·rename_i he
     split at h
     ·rename_i hc1
      have hrun:=run_bytes_of_string (P:=P) w s d e str hs hd he;unfold z83 at h
      split at h
      ·rename_i hone
       obtain⟨hone,hexb⟩:=hone;have hexn:zbf e H.ex=false:=hexb;simp only[Option.some.injEq,Prod.mk.injEq] at h;obtain⟨rfl,rfl⟩:=h;have hr:=z1f2 m str.data.toList str.size (by omega);rw[h2] at hr;have hge:=grownCap_ge w str.size 0 e;have htk:str.data.toList.take str.size=str.data.toList:=List.take_of_length_le (by omega);rw[htk] at hr
       have hrow:(bytesRow str (grownCap w str.size 0 e)).toList=z57 str.data.toList++List.replicate (grownCap w str.size 0 e - str.size) (.int .u8 0):=by
        simp[bytesRow,z57]
       have F2:=z359 F.drew (w':=w.drew.alloc (.cells (bytesRow str (grownCap w str.size 0 e)) e ((bytesRow str (grownCap w str.size 0 e)).size,(bytesRow str (grownCap w str.size 0 e)).size+1))) (c:=bytesRow str (grownCap w str.size 0 e)) (e:=e)
        (F.drew.below.alloc F.drew.size _) (fun q hq => Below.heap_alloc _ _ _ hq) (heap_alloc_new w.drew _) (fun i hi => by simp only; omega) (by
         have:(bytesRow str (grownCap w str.size 0 e)).size=(bytesRow str (grownCap w str.size 0 e)).toList.length:=by simp
         rw[this,hrow];simp) (fun i hi=>by
         have:(bytesRow str (grownCap w str.size 0 e))[i]? =(bytesRow str (grownCap w str.size 0 e)).toList[i]?:=by simp
         rw[this,hrow,List.getElem?_append_left hi]) hr (z36f _) (fun hx=>by rw[hexn] at hx;cases hx)
       refine⟨_,_,_,_,Ext.append m _,F2,rfl,hrun,?_⟩
       have hbl:(bytesRow str (grownCap w str.size 0 e)).size=grownCap w str.size 0 e:=by
        have:(bytesRow str (grownCap w str.size 0 e)).size=(bytesRow str (grownCap w str.size 0 e)).toList.length:=by simp
        rw[this,hrow];simp only[List.length_append,List.length_replicate,z57,List.length_map];omega
       have:=Rel.sl (o:=0) (n:=str.size) (sz:=1) (cap:=grownCap w str.size 0 e) (z162 F.drew (w.drew.heap.size,0,(bytesRow str (grownCap w str.size 0 e)).size)) (by omega) (by omega)
       simpa using this
      ·cases h
     ·cases h
    ·cases h
   ·cases h
  ·cases h
 ·rename_i b o n sz
  split at h
  ·rename_i hsz
   subst hsz;cases hx _ rfl with| @sl _ _ _ _ cap g s0 z0 hm hcap hzz=>
   exact PureOK.post F (z3d4 (fun l hl=>by obtain⟨l',h1,h2,h3,_⟩:=z17b F hm hl;exact⟨l',h1,h2,h3⟩) rfl h)
  ·cases h
 ·cases hx _ rfl
  unfold ze0 at h
  split at h
  ·rename_i e hd hs
   split at h
   ·rename_i cs he hcs
    simp only[Option.some.injEq] at hcs;subst hcs;simp only[z1bd] at h;refine PureOK.post F (z37 (v':=.string .empty) h ?_ (.str _ (by simp) (by rfl)));rw[run_convert_bytes_string w s d e none 0 0 hs he hd]
    simp[Conv.bytesToString]
   ·cases h
  ·cases h
 ·cases hx _ rfl with | esl a cap =>
  unfold ze0 at h
  split at h
  ·rename_i e hd hs
   split at h
   ·rename_i cs he hcs
    simp only[Option.some.injEq] at hcs;subst hcs;simp only[z1bd] at h;exact PureOK.post F (z37 (v':=.string ⟨[].toArray⟩) h (run_convert_bytes_back w s d e a cap [] hs he hd (fun j hj=>by simp at hj)) (.str _ (by simp) (by rfl)))
   ·cases h
  ·cases h
 ·cases h
theorem z1a1{x:Option Operand}{ρ:z1be}{ρ':Operand→Value}{y:Option AV}{d n:Nat}(hr:∀o,x=some o→∀v,ρ o=some v→Rel m v (ρ' o))(hy:z3af ρ x=some y)(hn:z88 y d=some n):(x=none∧y=none∧n=d)∨∃o k,x=some o∧ρ' o=.int k (n:Int):=by
 unfold z3af at hy
 split at hy
 ·simp only [Option.some.injEq] at hy; subst hy
  simp only[z88,Option.some.injEq] at hn;exact .inl ⟨rfl,rfl,hn.symm⟩
 ·rename_i o
  split at hy
  ·rename_i v hv
   simp only[Option.some.injEq] at hy;subst hy;unfold z88 at hn
   split at hn
   ·rename_i e;cases e
   ·rename_i k q e
    simp only[Option.some.injEq] at e hn;subst e;subst hn;have:=z6c (hr o rfl _ hv);exact .inr ⟨o,k,rfl,this⟩
   ·cases hn
  ·cases hy
theorem bounds_ok{lo hi:Option Operand}{ρ:z1be}{ρ':Operand→Value}{ylo yhi:Option AV}{isS:Bool}{len cap l r:Nat}(hr:∀o,(lo=some o∨hi=some o)→∀v,ρ o=some v→Rel m v (ρ' o))(hlo:z3af ρ lo=some ylo)(hhi:z3af ρ hi=some yhi)(hl:z88 ylo 0=some l)(hh:z88 yhi len=some r)(h1:l≤r)(h2:r≤len)(h3:len≤cap)(w:World):(Instr.sliceBounds isS len cap (lo.map ρ') (hi.map ρ') none).run P w=.ok (l,r,cap) w:=by
 have b1:=z1a1 (fun o e=>hr o (.inl e)) hlo hl;have b2:=z1a1 (fun o e=>hr o (.inr e)) hhi hh
 rcases b1 with⟨rfl,_,rfl⟩|⟨o1,k1,rfl,e1⟩<;>rcases b2 with⟨rfl,_,rfl⟩|⟨o2,k2,rfl,e2⟩
 ·simp[Instr.sliceBounds]
 ·simp only [Option.map_none, Option.map_some, e2]
  simp[Instr.sliceBounds,run_sliceBound,(by omega:((r:Int))≤(cap:Int))]
 ·simp only [Option.map_none, Option.map_some, e1]
  simp[Instr.sliceBounds,run_sliceBound,(by omega:((l:Int))≤(r:Int))]
 ·simp only [Option.map_some, e1, e2]
  simp[Instr.sliceBounds,run_sliceBound,(by omega:((r:Int))≤(cap:Int)),(by omega:((l:Int))≤(r:Int))]
theorem z4a5{ρ:z1be}{ρ':Operand→Value}{t:TypeId}{x:Operand}{lo hi mx:Option Operand}(hr:∀o,(o=x∨lo=some o∨hi=some o∨mx=some o)→∀v,ρ o=some v→Rel m v (ρ' o)){xv:AV}{ylo yhi ymx:Option AV}(hx:ρ x=some xv)(hlo:z3af ρ lo=some ylo)(hhi:z3af ρ hi=some yhi)(hmx:z3af ρ mx=some ymx)(h:z248 P H t xv ylo yhi ymx=some (nx,H')):PureOK m w H nx H' ((Instr.sliceAt t (ρ' x) (lo.map ρ') (hi.map ρ') (mx.map ρ')).run P w):=by
 unfold z248 at h
 split at h
 ·cases h
 ·rename_i yh
  split at h
  ·cases h
  ·rename_i ym
   have hrx:=hr x (.inl rfl) xv hx
   generalize ρ' x=x' at *
   split at h
   ·rename_i b o k sz
    cases hrx with| @sl _ _ _ _ cap g s0 z0 hm hcap hzz=>
    unfold z210 at h
    split at h
    ·rename_i l r q hl hh hq
     split at h
     ·rename_i e he
      have hu:=za5 he
      split at h
      ·rename_i hc
       obtain⟨c1,c2,c3,c4,c5⟩:=hc;have c1:=Nat.le_of_ble_eq_true c1;have c2:=Nat.le_of_ble_eq_true c2;have c3:=Nat.le_of_ble_eq_true c3;obtain⟨i,hinf⟩:=Option.isSome_iff_exists.1 c5;have hue:P.underlying t=some (.slice (P.elem t)):=by simp[Program.elem,hu]
       have b1:=z1a1 (fun o e=>hr o (.inr (.inl e))) hlo hl;have b2:=z1a1 (fun o e=>hr o (.inr (.inr (.inl e)))) hhi hh;have b3:=z1a1 (fun o e=>hr o (.inr (.inr (.inr e)))) hmx hq
       have hbb:(Instr.sliceBounds true k cap (lo.map ρ') (hi.map ρ') (mx.map ρ')).run P w=.ok (l,r,q) w:=by
        rcases b2 with⟨_,e2,_⟩|⟨o2,k2,rfl,e2⟩
        ·cases e2
        rcases b3 with⟨_,e3,_⟩|⟨o3,k3,rfl,e3⟩
        ·cases e3
        rcases b1 with⟨rfl,_,rfl⟩|⟨o1,k1,rfl,e1⟩
        ·simp only [Option.map_none, Option.map_some, e2, e3]
         simp[Instr.sliceBounds,run_sliceBound,(by omega:((q:Int))≤(cap:Int)),(by omega:((r:Int))≤(q:Int))]
        ·simp only [Option.map_some, e1, e2, e3]
         simp[Instr.sliceBounds,run_sliceBound,(by omega:((q:Int))≤(cap:Int)),(by omega:((r:Int))≤(q:Int)),(by omega:((l:Int))≤(r:Int))]
       have hrun:(Instr.sliceAt t (.slice (some ⟨g,s0+o,none⟩) k cap) (lo.map ρ') (hi.map ρ') (mx.map ρ')).run P w=.ok (.slice (if q=l then some ⟨g,s0+o,none⟩ else some ⟨g,s0+o+l*sz,none⟩) (r - l) (q - l)) w:=by
        rw[run_sliceAt_slice w t _ _ _ _ hue];simp only[Instr.slice,Sem.run_bind,run_underlying hu,Result.andThen_ok,hbb,run_sizeOf w hinf,Sem.run_pure,c4]
        congr 2
        split
        ·rfl
        ·simp[Addr.add_mid]
       refine z37 h hrun ?_
       by_cases hcl:q=l
       ·rw [if_pos hcl]
        have hrl:r=l:=by omega
        by_cases hl0:l=0
        ·rw [if_neg (by rw [hl0]; simp [Nat.blt])]
         have:=Rel.sl (o:=o) (n:=0) (cap:=0) (sz:=sz) hm (by omega) (by rw[Nat.zero_mul];omega);rw[hrl,hcl,Nat.sub_self,hl0,Nat.zero_mul,Nat.add_zero];exact this
        ·rw [if_pos ⟨by rw [hcl]; exact Nat.beq_refl l, by simp [Nat.blt]; omega⟩, hrl, Nat.sub_self]
         exact .esl _ _
       ·rw [if_neg hcl]
        split
        ·rename_i hq
         have hq1:=Nat.eq_of_beq_eq_true hq.1;exact absurd hq1.symm hcl
        ·have h5 : (q - l) * sz + l * sz = q * sz := by rw [← Nat.add_mul]; congr 1; omega
         have h6:q*sz≤cap*sz:=Nat.mul_le_mul_right _ (by omega);have:=Rel.sl (o:=o+l*sz) (n:=r - l) (cap:=q - l) (sz:=sz) hm (by omega) (by omega);rw[Nat.add_assoc];exact this
      ·cases h
     ·cases h
    ·cases h
   ·cases h
theorem slice_ok{w0:Base}(F:Fits w0 m H w){ρ:z1be}{ρ':Operand→Value}{t:TypeId}{x:Operand}{lo hi mx:Option Operand}(hr:∀o,(o=x∨lo=some o∨hi=some o∨mx=some o)→∀v,ρ o=some v→Rel m v (ρ' o))(h:z192 P ρ H t x lo hi mx=some (nx,H')):
  PureOK m w H nx H' ((Instr.sliceAt t (ρ' x) (lo.map ρ') (hi.map ρ') (mx.map ρ')).run P w):=by
 unfold z192 at h
 split at h
 ·split at h
  ·rename_i xv ylo yhi ymx hx hlo hhi hmx
   exact z4a5 hr hx hlo hhi hmx h
  ·cases h
 ·have hr : ∀ o, (o = x ∨ lo = some o ∨ hi = some o) → ∀ v, ρ o = some v → Rel m v (ρ' o) := fun o ho => hr o (ho.elim .inl (fun h => h.elim (fun h => .inr (.inl h)) (fun h => .inr (.inr (.inl h)))))
  split at h
  ·rename_i xv ylo yhi hx hlo hhi
   have hrx:=hr x (.inl rfl) xv hx
   have hb:∀{isS:Bool} {len cap l r:Nat},z88 ylo 0=some l→z88 yhi len=some r→l≤r→r≤len→len≤cap→(Instr.sliceBounds isS len cap (lo.map ρ') (hi.map ρ') none).run P w=.ok (l,r,cap) w:=
    fun hl hh h1 h2 h3=>bounds_ok (fun o e=>hr o (.inr e)) hlo hhi hl hh h1 h2 h3 w
   unfold z90 at h;simp only[Option.map_none]
   generalize ρ' x=x' at *
   split at h
   ·-- a part of an array
    rename_i b o;cases hrx with| @ptr _ _ g s0 z0 hm=>
    split at h
    ·rename_i n e hu
     split at h
     ·rename_i hi0
      obtain⟨i,hinf⟩:=Option.isSome_iff_exists.1 hi0;unfold z42b at h
      split at h
      ·rename_i l r hl hh
       split at h
       ·rename_i N tt ee hrow
        split at h
        ·rename_i hc
         obtain⟨c1,c2,c3⟩:=hc;have c1:=Nat.le_of_ble_eq_true c1;have c2:=Nat.le_of_ble_eq_true c2;have c3:=Nat.le_of_ble_eq_true c3;obtain⟨_,cc,fz,_,hcz,hsz,_⟩:=F.row b N tt ee g s0 z0 hrow hm;have hue:P.underlying t=some (.array (P.arrayLen t) (P.elem t)):=by simp[Program.elem,Program.arrayLen,hu]
         have hal:P.arrayLen t=n:=by simp[Program.arrayLen,hu]
         have hel:P.elem t=e:=by simp[Program.elem,hu]
         have hrun:(Instr.sliceAt t (.pointer (some ⟨g,s0+o,none⟩)) (lo.map ρ') (hi.map ρ') none).run P w=.ok (slicedAt ⟨g,s0+o,none⟩ l r n (P.cellsOf e)) w:=by
          have b1:=z1a1 (fun o e=>hr o (.inr (.inl e))) hlo hl;have b2:=z1a1 (fun o e=>hr o (.inr (.inr e))) hhi hh
          rcases b1 with⟨rfl,_,rfl⟩|⟨o1,k1,rfl,e1⟩<;>rcases b2 with⟨rfl,_,rfl⟩|⟨o2,k2,rfl,e2⟩
          ·simp only [Option.map_none]
           rw[run_sliceAt_array_all w t _ hue,hal,hel,run_sizeOf w hinf];rfl
          ·simp only [Option.map_none, Option.map_some, e2]
           rw[run_sliceAt_array_h w t _ hue _ _ (by omega) (by rw[hal];omega),hal,hel,run_sizeOf w hinf];rfl
          ·simp only [Option.map_none, Option.map_some, e1]
           rw[run_sliceAt_array_l w t _ hue _ _ (by omega) (by rw[hal];omega),hal,hel,run_sizeOf w hinf];rfl
          ·simp only [Option.map_some, e1, e2]
           rw[run_sliceAt_array_lh w t _ hue _ _ _ _ (by omega) (by omega) (by rw[hal];omega),hal,hel,run_sizeOf w hinf];rfl
         refine z37 h hrun ?_;unfold slicedAt
         by_cases hnl:n=l
         ·rw [if_pos hnl]
          have hrl:r - l=0:=by omega
          by_cases hl0:l=0
          ·rw [if_neg (by rw [hl0]; simp [Nat.blt])]
           have:=Rel.sl (o:=o+l*P.cellsOf e) (n:=r - l) (cap:=n - l) (sz:=P.cellsOf e) hm (by omega) (by
            subst hl0;subst hnl;simp only[Nat.zero_mul] at *;omega)
           subst hl0;rw[Nat.zero_mul,Nat.add_zero] at this ⊢;exact this
          ·rw [if_pos ⟨by rw [hnl]; exact Nat.beq_refl l, by simp [Nat.blt]; omega⟩, hrl]
           exact .esl _ _
         ·rw [if_neg hnl]
          split
          ·rename_i hq
           exact absurd (Nat.eq_of_beq_eq_true hq.1).symm hnl
          ·have := Rel.sl (o := o + l * P.cellsOf e) (n := r - l) (cap := n - l) (sz := P.cellsOf e) hm (by omega) (by
            have h5:(n - l)*P.cellsOf e+l*P.cellsOf e=n*P.cellsOf e:=by rw[←Nat.add_mul];congr 1;omega
            omega)
           rw[Addr.add_mid,Nat.add_assoc];exact this
        ·cases h
       ·cases h
      ·cases h
     ·cases h
    ·cases h
   ·-- a text
    rename_i n v;cases hrx with|str s h1 h2=>
    unfold z20f at h
    split at h
    ·rename_i l r hl hh
     split at h
     ·rename_i hu
      split at h
      ·rename_i hc
       have c1:=Nat.le_of_ble_eq_true hc.1;have c2:=Nat.le_of_ble_eq_true hc.2;have hsz:s.size=n:=by rw[zc7,h1]
       have hbb:=hb (isS:=false) (cap:=n) hl hh c1 c2 (Nat.le_refl _);refine z37 (v':=.string (s.extract l r)) h ?_ (.str _ ?_ ?_)
       ·rw [run_sliceAt_string w t _ _ _ _ hu]
        simp[Instr.slice,run_underlying hu,hsz,hbb]
       ·simp [ByteArray.data_extract]
        have:s.data.size=n:=by rw[←h1];simp
        omega
       ·have he : (s.extract l r).data.toList = (s.data.toList.drop l).take (r - l) := by
         simp[ByteArray.data_extract,List.take_drop]
         try (congr 1;omega)
        rw[he,z44c,z369,h2]
      ·cases h
     ·cases h
    ·cases h
   ·-- a row
    rename_i b o k sz;cases hrx with| @sl _ _ _ _ cap g s0 z0 hm hcap hzz=>
    unfold z18f at h
    split at h
    ·rename_i l r hl hh
     split at h
     ·rename_i e he
      have hu:=za5 he
      split at h
      ·rename_i hc
       obtain⟨c1,c2,c3,c4⟩:=hc;have c1:=Nat.le_of_ble_eq_true c1;have c2:=Nat.le_of_ble_eq_true c2;obtain⟨i,hinf⟩:=Option.isSome_iff_exists.1 c4;have hbb:=hb (isS:=true) (cap:=cap) hl hh c1 c2 hcap;have hue:P.underlying t=some (.slice (P.elem t)):=by simp[Program.elem,hu]
       have hrun:(Instr.sliceAt t (.slice (some ⟨g,s0+o,none⟩) k cap) (lo.map ρ') (hi.map ρ') none).run P w=.ok (.slice (if cap=l then some ⟨g,s0+o,none⟩ else some ⟨g,s0+o+l*sz,none⟩) (r - l) (cap - l)) w:=by
        rw[run_sliceAt_slice w t _ _ _ _ hue];simp only[Instr.slice,Sem.run_bind,run_underlying hu,Result.andThen_ok,hbb,run_sizeOf w hinf,Sem.run_pure,c3]
        congr 2
        split
        ·rfl
        ·simp[Addr.add_mid]
       refine z37 h hrun ?_;clear hb hbb
       by_cases hcl:cap=l
       ·rw [if_pos hcl]
        have hkl:k=l:=by omega
        have hrl:r=l:=by omega
        by_cases hl0:l=0
        ·rw [if_neg (by rw [hl0]; simp [Nat.blt])]
         subst hl0;have:=Rel.sl (n:=r - 0) (cap:=cap - 0) hm (by omega) (by simpa using hzz)
         simpa using this
        ·rw [if_pos ⟨by rw [hkl]; exact Nat.beq_refl l, by simp [Nat.blt]; omega⟩, hrl, Nat.sub_self]
         exact .esl _ _
       ·rw [if_neg hcl]
        split
        ·rename_i hq
         have hq1:=Nat.eq_of_beq_eq_true hq.1;have:r - l=0:=by omega
         rw[this];exact .esl _ _
        ·have := Rel.sl (o := o + l * sz) (n := r - l) (cap := cap - l) (sz := sz) hm (by omega) (by
          have h5:(cap - l)*sz+l*sz=cap*sz:=by rw[←Nat.add_mul];congr 1;omega
          omega)
         rw[Nat.add_assoc];exact this
      ·cases h
     ·cases h
    ·cases h
   ·-- nil
    unfold z16b at h
    split at h
    ·rename_i hl hh
     split at h
     ·rename_i e he
      have hu:=za5 he
      split at h
      ·rename_i hi0
       obtain⟨i,hinf⟩:=Option.isSome_iff_exists.1 hi0;cases hrx;have hbb:=hb (isS:=true) (cap:=0) hl hh (Nat.le_refl _) (Nat.le_refl _) (Nat.le_refl _);have hue:P.underlying t=some (.slice (P.elem t)):=by simp[Program.elem,hu]
       refine z37 (v':=.slice none 0 0) h ?_ .nsl;rw[run_sliceAt_slice w t _ _ _ _ hue]
       simp[Instr.slice,run_underlying hu,hbb,run_sizeOf w hinf]
      ·cases h
     ·cases h
    ·cases h
   ·unfold z16b at h
    split at h
    ·rename_i hl hh
     split at h
     ·rename_i e he
      have hu:=za5 he
      split at h
      ·rename_i hi0
       obtain⟨i,hinf⟩:=Option.isSome_iff_exists.1 hi0;cases hrx with|esl a cap=>
       have hbb:=hb (isS:=true) (cap:=cap) hl hh (Nat.le_refl _) (Nat.le_refl _) (Nat.zero_le _);have hue:P.underlying t=some (.slice (P.elem t)):=by simp[Program.elem,hu]
       have hrun:(Instr.sliceAt t (.slice (some a) 0 cap) (lo.map ρ') (hi.map ρ') none).run P w=.ok (.slice (if cap=0 then some a else some (a.add (0*P.cellsOf e))) 0 cap) w:=by
        rw[run_sliceAt_slice w t _ _ _ _ hue];simp only[Instr.slice,Sem.run_bind,run_underlying hu,Result.andThen_ok,hbb,run_sizeOf w hinf,Sem.run_pure]
        congr 2
       refine z37 h hrun ?_
       split<;>exact .esl _ _
      ·cases h
     ·cases h
    ·cases h
   ·cases h
  ·cases h
theorem z17e(i:Nat):Int.ofNat i=(i:Int):=rfl
theorem z3cb{s:TypeId}{f:Nat}{x:Option AV}{x':Value}(hx:∀v,x=some v→Rel m v x')(h:z6d P H s f x=some (nx,H')):PureOK m w H nx H' ((Instr.fieldAt s x' f).run P w):=by
 unfold z6d at h
 split at h
 ·cases hx _ rfl with | ptr hm =>
  split at h
  ·rename_i fs hu
   split at h
   ·rename_i fd hf
    split at h
    ·rename_i hc
     have hpos:0<P.cellsOf fd.type:=z234 hc
     have hi:∃i,P.info? fd.type=some i:=by
      cases hi:P.info? fd.type with
      |some i=>exact⟨i,rfl⟩
      |none=>simp[Program.cellsOf,hi] at hpos
     obtain⟨i,hi⟩:=hi;refine z37 h ?_ (.ptr hm);have hne:¬P.cellsOf fd.type=0:=by omega
     simp only[Instr.fieldAt,Sem.run_bind,run_underlying hu,Result.andThen_ok,hf,Instr.sureAddr,Sem.run_pure,fieldPlace,run_sizeOf w hi,if_neg hne,Addr.add_mid,Nat.add_assoc]
    ·cases h
   ·cases h
  ·cases h
 ·cases hx _ rfl with | gptr g o =>
  split at h
  ·rename_i fs hu
   split at h
   ·rename_i fd hf
    split at h
    ·rename_i hc
     have hpos:0<P.cellsOf fd.type:=z234 hc
     have hi:∃i,P.info? fd.type=some i:=by
      cases hi:P.info? fd.type with
      |some i=>exact⟨i,rfl⟩
      |none=>simp[Program.cellsOf,hi] at hpos
     obtain⟨i,hi⟩:=hi;refine z37 h ?_ (.gptr _ _);have hne:¬P.cellsOf fd.type=0:=by omega
     simp only[Instr.fieldAt,Sem.run_bind,run_underlying hu,Result.andThen_ok,hf,Instr.sureAddr,Sem.run_pure,fieldPlace,run_sizeOf w hi,if_neg hne,Addr.add_mid]
    ·cases h
   ·cases h
  ·cases h
 ·cases h
theorem field_ok{t:TypeId}{f:Nat}{x:Option AV}{x':Value}(hx:∀v,x=some v→Rel m v x')(h:z195 P H t f x=some (nx,H')):PureOK m w H nx H' ((Instr.field t x' f).run P w):=by
 unfold z195 at h
 split at h
 ·cases hx _ rfl with | agg hl =>
  split at h
  ·rename_i fs hu
   split at h
   ·rename_i fd hf
    cases hp:z1f8 P fd.type _ fd.offset with
    |none=>rw[hp] at h;cases h
    |some v=>
     rw[hp] at h;obtain⟨v',h1,h2⟩:=z1f7 hl hp w;exact z37 (v':=v') h (by simp[Instr.field,run_underlying hu,hf,asAgg,h1]) h2
   ·cases h
  ·cases h
 ·cases h
theorem z3bf{t:TypeId}{x y:Option AV}{x' y':Value}(hx:∀v,x=some v→Rel m v x')(hy:∀v,y=some v→Rel m v y')(h:z4c P H t x y=some (nx,H')):PureOK m w H nx H' ((Instr.indexAt t x' y').run P w):=by
 unfold z4c at h
 split at h
 ·rename_i b o k i
  cases hx _ rfl with|ptr hm=>
  have:=z6c (hy _ rfl);subst this
  split at h
  ·rename_i n e hu
   split at h
   ·rename_i hc
    obtain⟨c1,c2⟩:=hc;have c1:i<n:=z234 c1;obtain⟨ie,hi⟩:=Option.isSome_iff_exists.1 c2;refine z37 h ?_ (.ptr hm);have c3:(0:Int)≤(i:Int)∧(i:Int)<(n:Int):=by omega
    simp only[Instr.indexAt,asIntOf,Sem.run_bind,Sem.run_pure,run_underlying hu,Result.andThen_ok,Instr.sureAddr,if_pos c3,run_sizeOf w hi,Addr.add_mid,z17e,Int.toNat_natCast,Nat.add_assoc]
   ·cases h
  ·cases h
 ·rename_i b o k i
  cases hx _ rfl with|gptr g o=>
  have:=z6c (hy _ rfl);subst this
  split at h
  ·rename_i n e hu
   split at h
   ·rename_i hc
    obtain⟨c1,c2⟩:=hc;have c1:i<n:=z234 c1;obtain⟨ie,hi⟩:=Option.isSome_iff_exists.1 c2;refine z37 h ?_ (.gptr _ _);have c3:(0:Int)≤(i:Int)∧(i:Int)<(n:Int):=by omega
    simp only[Instr.indexAt,asIntOf,Sem.run_bind,Sem.run_pure,run_underlying hu,Result.andThen_ok,Instr.sureAddr,if_pos c3,run_sizeOf w hi,Addr.add_mid,z17e,Int.toNat_natCast]
   ·cases h
  ·cases h
 ·rename_i b o n sz k i
  cases hx _ rfl with|sl hm hcap hzz=>
  have:=z6c (hy _ rfl);subst this
  split at h
  ·rename_i e he
   have hu:=za5 he
   split at h
   ·rename_i hc
    obtain⟨c1,c2⟩:=hc;have c1:i<n:=z234 c1;obtain⟨ie,hi⟩:=Option.isSome_iff_exists.1 c2;refine z37 h ?_ (.ptr hm);have c3:(0:Int)≤(i:Int)∧(i:Int)<(n:Int):=by omega
    simp only[Instr.indexAt,asIntOf,Sem.run_bind,Sem.run_pure,run_underlying hu,Result.andThen_ok,if_pos c3,run_sizeOf w hi,Addr.add_mid,z17e,Int.toNat_natCast,Nat.add_assoc]
   ·cases h
  ·cases h
 ·cases h
theorem index_ok{t:TypeId}{x y:Option AV}{x' y':Value}(hx:∀v,x=some v→Rel m v x')(hy:∀v,y=some v→Rel m v y')(h:z160 P H t x y=some (nx,H')):PureOK m w H nx H' ((Instr.index t x' y').run P w):=by
 unfold z160 at h
 split at h
 ·rename_i cs k i
  cases hx _ rfl with|agg hl=>
  have:=z6c (hy _ rfl);subst this
  split at h
  ·rename_i n e hu
   split at h
   ·rename_i hc
    have c1:i<n:=z234 hc;cases hp:z1f8 P e _ (i*P.cellsOf e) with
    |none=>rw[hp] at h;cases h
    |some v=>
     rw[hp] at h;obtain⟨v',h1,h2⟩:=z1f7 hl hp w
     have hi:∃ie,P.info? e=some ie:=by
      unfold z1f8 at hp
      split at hp
      ·rename_i ha;exact z19c ha
      ·rename_i ha;exact z19c ha
      ·cases hp
     obtain⟨ie,hi⟩:=hi;have c3:(0:Int)≤(i:Int)∧(i:Int)<(n:Int):=by omega
     refine z37 h ?_ h2;simp only[Instr.index,asIntOf,Sem.run_bind,Sem.run_pure,run_underlying hu,Result.andThen_ok,if_pos c3,run_sizeOf w hi,z17e,Int.toNat_natCast,h1]
   ·cases h
  ·cases h
 ·rename_i n v k i
  cases hx _ rfl with|str s h1 h2=>
  have:=z6c (hy _ rfl);subst this
  split at h
  ·rename_i hu
   split at h
   ·rename_i hc
    have c1:i<n:=z234 hc;have hlt:i<s.data.toList.length:=by omega
    have hg:s[i]? =some (s.data.toList[i]):=by
     have hsz:i<s.size:=by rw[zc7];exact hlt
     rw[getElem?_pos s i hsz];rfl
    refine z37 (v':=.int .u8 ((s.data.toList[i]).toNat:Int)) h ?_ ?_
    ·have c0 : (0 : Int) ≤ (i : Int) := by omega
     simp only[Instr.index,asIntOf,Sem.run_bind,Sem.run_pure,run_underlying hu,Result.andThen_ok,if_pos c0,z17e,Int.toNat_natCast,hg]
    ·rw[←h2,enc_get _ _ hlt];exact .int .u8 _
   ·cases h
  ·cases h
 ·cases h
theorem z2d0{t:TypeId}(h:z1cb P t=true):∃d,P.underlying t=some d∧∀ms,d≠ .interface ms:=by
 unfold z1cb at h
 split at h
 ·cases h
 ·cases h
 ·rename_i d hd hu
  exact⟨d,hu,fun ms e=>hd ms e⟩
theorem iface_ok{t:TypeId}{x:Option AV}{x':Value}(hx:∀v,x=some v→Rel m v x')(h:z1f9 P H t x=some (nx,H')):PureOK m w H nx H' ((Instr.makeInterface t x').run P w):=by
 unfold z1f9 at h
 split at h
 ·split at h
  ·rename_i hc
   obtain⟨d,hu,hd⟩:=z2d0 hc;refine z37 h ?_ (.ifc (hx _ rfl));simp only[Instr.makeInterface,Sem.run_bind,run_underlying hu,Result.andThen_ok]
   cases d<;>first|rfl|exact absurd rfl (hd _)
  ·cases h
 ·cases h
theorem assert_ok{t u:TypeId}{ok:Bool}{x:Option AV}{x':Value}(hx:∀v,x=some v→Rel m v x')(h:z197 P H t ok x=some (nx,H')):PureOK m w H nx H' ((Instr.typeAssert x' u t ok).run P w):=by
 unfold z197 at h
 split at h
 ·split at h
  ·rename_i hc
   obtain⟨d,hu,hd⟩:=z2d0 hc;cases hx _ rfl with|ifc hv=>
   unfold z1d0 at h
   split at h
   ·rename_i htu
    subst htu
    cases ok with
    |true=>
     refine z37 h ?_ (.tup (.cons hv (.cons (.bool true) .nil)));simp only[Instr.typeAssert,Sem.run_bind,run_underlying hu,Result.andThen_ok]
     cases d<;>first|(simp;done)|exact absurd rfl (hd _)
    |false=>
     refine z37 h ?_ hv;simp only[Instr.typeAssert,Sem.run_bind,run_underlying hu,Result.andThen_ok]
     cases d<;>first|(simp;done)|exact absurd rfl (hd _)
   ·cases h
  ·cases h
 ·cases h
theorem z485{i:Nat}{x:Option AV}{x':Value}(hx:∀v,x=some v→Rel m v x')(h:z95 H i x=some (nx,H')):PureOK m w H nx H' ((Instr.extract x' i).run P w):=by
 unfold z95 at h
 split at h
 ·rename_i l
  cases hx _ rfl with|tup hl=>
  cases hi:l[i]? with
  |none=>rw[hi] at h;cases h
  |some v=>
   rw[hi] at h;obtain⟨y,h1,h2⟩:=hl.get i v hi;exact z37 (v':=y) h (by simp[Instr.extract,h1]) h2
 ·cases h
end
end
end Go.Proofs.Ytpnccmlajhhpdaa.Abs
