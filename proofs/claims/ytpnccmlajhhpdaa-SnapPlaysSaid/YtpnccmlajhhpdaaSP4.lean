/- What snapPlays_proved stands on, part 4 of 10. -/
import Derived.Test.YtpnccmlajhhpdaaSP3
import Derived.ChangeArms
import Derived.OpenShut
import Derived.WideShapes
import Derived.ChangeShapes
import Derived.ChangeAt
namespace Go.Proofs.Ytpnccmlajhhpdaa.Abs
noncomputable section
open Go.RowKit
abbrev R:=Option (ARes×AHeap)
abbrev Bytes:=List UInt8
def z5(l:Bytes):AV:=.str l.length (enc l)
def obind{α:Type}(x:Option α)(k:α→R):R:=match x with
 |some a=>k a
 |none=>none
def lett{α:Type}(v:α)(k:α→R):R:=k v
def ifB(b:Bool)(x y:R):R:=match b with
 |true=>x
 |false=>y
theorem z4f{x y r:R}(h:ifB true x y=r):x=r:=h
theorem z50{x y r:R}(h:ifB false x y=r):y=r:=h
theorem z442(x y:R):ifB true x y=x:=rfl
theorem z3c0(x y:R):ifB false x y=y:=rfl
def outK(x:z8a)(k:AV→AHeap→R):R:=match x with
 |some (.val v,h)=>k v h
 |_=>none
def callK(x:R)(k:AV→AHeap→R):R:=match x with
 |some (.ret v,h)=>k v h
 |some (.panic v,h)=>some (.panic v,h)
 |none=>none
def callN(x:R)(k:AV→AHeap→R):R:=match x with
 |some (.ret v,h)=>k v h
 |_=>none
def chk(b:Bool)(k:R):R:=match b with
 |true=>k
 |false=>none
def z122{σ:Type}(z:σ)(f:σ→σ):Nat→σ
 |0=>z
 |n+1=>f (z122 z f n)
theorem z24c{r r':ARes}{h h':AHeap}(e:some (r,h)=some (r',h')):r=r'∧h=h':=by cases e;exact⟨rfl,rfl⟩
theorem z21f{α:Type}{x:Option α}{a:α}(k:α→R)(e:x=some a):obind x k=k a:=by rw[e];rfl
theorem z120{α:Type}(v:α)(k:α→R):lett v k=k v:=rfl
theorem z5d{α:Type}(a:α)(k:α→R):obind (some a) k=k a:=rfl
theorem z28b(v:AV)(h:AHeap)(k:AV→AHeap→R):outK (some (.val v,h)) k=k v h:=rfl
theorem z3d6(v:AV)(h:AHeap)(k:AV→AHeap→R):callN (some (.ret v,h)) k=k v h:=rfl
theorem z4{α:Type}{x:Option α}{k:α→R}{r:ARes×AHeap}(h:obind x k=some r):∃a,x=some a∧k a=some r:=by
 cases x with
 |none=>cases h
 |some a=>exact⟨a,rfl,h⟩
theorem z6{α:Type}{v:α}{k:α→R}{r:ARes×AHeap}(h:lett v k=some r):∃x,x=v∧k x=some r:=⟨v,rfl,h⟩
theorem z1c{x:z8a}{k:AV→AHeap→R}{r:ARes×AHeap}(h:outK x k=some r):∃v h',x=some (.val v,h')∧k v h'=some r:=by
 unfold outK at h
 split at h
 ·exact⟨_,_,rfl,h⟩
 ·cases h
theorem z18{x:R}{k:AV→AHeap→R}{r:ARes×AHeap}(h:callN x k=some r):∃v h',x=some (.ret v,h')∧k v h'=some r:=by
 unfold callN at h
 split at h
 ·exact⟨_,_,rfl,h⟩
 ·cases h
theorem z48d{x:R}{k:AV→AHeap→R}{r:ARes×AHeap}(h:callK x k=some r):(∃v h',x=some (.ret v,h')∧k v h'=some r)∨∃v h',x=some (.panic v,h')∧r=(.panic v,h'):=by
 unfold callK at h
 split at h
 ·exact .inl ⟨_,_,rfl,h⟩
 ·simp only [Option.some.injEq] at h
  exact .inr ⟨_,_,rfl,h.symm⟩
 ·cases h
theorem z74{b:Bool}{k:R}{r:ARes×AHeap}(h:chk b k=some r):b=true∧k=some r:=by
 cases b with
 |true=>exact⟨rfl,h⟩
 |false=>cases h
theorem z38{α:Type}{o:z8a}{h:AHeap}{x y:α}(K:α→AV)(e:x=y)(hk:o=some (.val (K y),h)):o=some (.val (K x),h):=by rw[e];exact hk
def z17(k:IntKind):AV→Option Int
 | .int k' n=>match decide (k'=k) with
  |true=>some n
  |false=>none
 |_=>none
def z33:AV→Option Bool
 | .bool b=>some b
 |_=>none
def z146:AV→Option (List AV)
 | .agg l=>some l
 |_=>none
def dec:Nat→Nat→Bytes
 |0,_=>[]
 |n+1,v=>UInt8.ofNat (v%256)::dec n (v/256)
def z20:AV→Option Bytes
 | .str n v=>match Nat.beq (enc (dec n v)) v with
  |true=>some (dec n v)
  |false=>none
 |_=>none
theorem z322:∀n v,(dec n v).length=n
 |0,_=>rfl
 |n+1,v=>by rw[dec,List.length_cons,z322 n]
theorem dec_enc:∀l:Bytes,dec l.length (enc l)=l
 |[]=>rfl
 |b::l=>by
  rw[List.length_cons,zb2,dec];have h1:(b.toNat+256*enc l)%256=b.toNat:=by have:=b.toNat_lt;omega
  have h2:(b.toNat+256*enc l)/256=enc l:=by have:=b.toNat_lt;omega
  rw[h1,h2,dec_enc l]
  simp
theorem z1a{k:IntKind}{x:AV}{n:Int}(h:z17 k x=some n):x=.int k n:=by
 cases x<;>try (cases h;done)
 simp only[z17] at h
 split at h
 ·rename_i hk
  have:=of_decide_eq_true hk;subst this;simp only[Option.some.injEq] at h;rw[h]
 ·cases h
theorem z24{x:AV}{b:Bool}(h:z33 x=some b):x=.bool b:=by
 cases x<;>try (cases h;done)
 simp only[z33,Option.some.injEq] at h;rw[h]
theorem zcb{x:AV}{l:List AV}(h:z146 x=some l):x=.agg l:=by
 cases x<;>try (cases h;done)
 simp only[z146,Option.some.injEq] at h;rw[h]
theorem z19{x:AV}{l:Bytes}(h:z20 x=some l):x=z5 l:=by
 cases x<;>try (cases h;done)
 rename_i n v;simp only[z20] at h
 split at h
 ·rename_i e
  simp only[Option.some.injEq] at h;subst h;rw[z5,z322,Nat.eq_of_beq_eq_true e]
 ·cases h
theorem z7(k:IntKind)(n:Int):z17 k (.int k n)=some n:=by simp[z17]
theorem z11(b:Bool):z33 (.bool b)=some b:=rfl
theorem z40(l:List AV):z146 (.agg l)=some l:=rfl
theorem ze(l:Bytes):z20 (z5 l)=some l:=by
 simp only[z20,z5,dec_enc,Nat.beq_refl]
def z3c1(l:Bytes):Int→Option Int
 | .ofNat i=>match l[i]? with
  |some b=>some (b.toNat:Int)
  |none=>none
 |_=>none
def z43(l:Bytes):Int→Int→Option Bytes
 | .ofNat a,.ofNat b=>match Nat.ble a b&&Nat.ble b l.length with
  |true=>some ((l.drop a).take (b - a))
  |false=>none
 |_,_=>none
def z37b(a b:Bytes):Option Bytes:=match Nat.ble (a.length+b.length) 1000000000 with
 |true=>some (a++b)
 |false=>none
def eqS(a b:Bytes):Bool:=Nat.beq a.length b.length&&Nat.beq (enc a) (enc b)
theorem eqS_eq(a b:Bytes):eqS a b=(a == b):=enc_eq a b
def z3b(l:Bytes):Int:=(l.length:Int)
section
variable {P:Program}{h:AHeap}{t:TypeId}
theorem z17f{k:IntKind}{l:Bytes}{i c:Int}(hu:P.underlying t=some .string)(e:z3c1 l i=some c):z160 P h t (some (z5 l)) (some (.int k i))=some (.val (.int .u8 c),h):=by
 cases i with
 |negSucc i=>cases e
 |ofNat i=>
  simp only[z3c1] at e
  split at e
  ·rename_i b hb
   simp only[Option.some.injEq] at e;subst e;obtain⟨h1,h2⟩:=List.getElem?_eq_some_iff.1 hb
   have:z160 P h t (some (z5 l)) (some (.int k (.ofNat i)))=(match P.underlying t with
    |some .string=>if Nat.blt i l.length=true then some (.val (.int .u8 ((enc l/256 ^ i%256:Nat):Int)),h) else none
    |_=>none):=rfl
   rw[this,hu];simp only[Nat.blt,Nat.ble_eq_true_of_le (show i.succ≤l.length from h1),if_true];rw[enc_get l i h1,h2]
  ·cases e
theorem z48{l r:Bytes}{a b:Int}{A B:Option AV}(hu:P.underlying t=some .string)(hlo:(∃k,A=some (.int k a))∨(A=none∧a=0))(hhi:(∃k,B=some (.int k b))∨(B=none∧b=z3b l))(e:z43 l a b=some r):
  z90 P h t (z5 l) A B=some (.val (z5 r),h):=by
 unfold z43 at e
 split at e
 ·rename_i a b
  split at e
  ·rename_i hab
   rw[Bool.and_eq_true] at hab;obtain⟨h1,h2⟩:=hab;simp only[Option.some.injEq] at e;subst e;have h3:=Nat.le_of_ble_eq_true h1;have h4:=Nat.le_of_ble_eq_true h2
   have hA2:z88 A 0=some a:=by
    rcases hlo with⟨k,rfl⟩|⟨rfl,h0⟩
    ·rfl
    ·have : a = 0 := by have h1 : (a : Int) = 0 := h0; omega
     rw[this];rfl
   have hB2:z88 B l.length=some b:=by
    rcases hhi with⟨k,rfl⟩|⟨rfl,h0⟩
    ·rfl
    ·have : b = l.length := by have h1 : (b : Int) = (l.length : Int) := h0; omega
     rw[this];rfl
   simp only[z90,z5,hA2,hB2,z20f,hu,h1,h2,and_self,if_true];have hle:((l.drop a).take (b - a)).length=b - a:=by rw[List.length_take,List.length_drop];omega
   rw[hle,z44c,z369]
  ·cases e
 ·cases e
theorem z110{l r s:Bytes}{lit:Bool}(e:z37b l r=some s):z75 P h .add t lit (some (z5 l)) (some (z5 r))=some (.val (z5 s),h):=by
 unfold z37b at e
 split at e
 ·rename_i hb
  simp only[Option.some.injEq] at e;subst e;simp only[z75,z5,binA,z45e,hb,if_true,z1a5,List.length_append,z1cf]
 ·cases e
def z473(k:IntKind)(a b:Int):Option Int:=if b=0 then none else some (k.wrap (a.tdiv b))
def remI(_:IntKind)(a b:Int):Option Int:=if b=0 then none else some (a.tmod b)
def shlI(k:IntKind)(a b:Int):Option Int:=if b<0 then none else some (k.wrap (a*2 ^ (min b.toNat k.bits)))
def shrI(k:IntKind)(a b:Int):Option Int:=if b<0 then none else some (a.fdiv (2 ^ (min b.toNat k.bits)))
def andI(k:IntKind)(a b:Int):Int:=k.wrap (BitVec.ofInt k.bits a&&&BitVec.ofInt k.bits b).toNat
def orI(k:IntKind)(a b:Int):Int:=k.wrap (BitVec.ofInt k.bits a|||BitVec.ofInt k.bits b).toNat
def xorI(k:IntKind)(a b:Int):Int:=k.wrap (BitVec.ofInt k.bits a ^^^ BitVec.ofInt k.bits b).toNat
def comI(k:IntKind)(n:Int):Int:=k.wrap (BitVec.ofInt k.bits (if k.signed then -1 else k.max) ^^^ BitVec.ofInt k.bits n).toNat
theorem z34e{k:IntKind}{a b c:Int}{lit:Bool}(e:z473 k a b=some c):z75 P h .quo t lit (some (.int k a)) (some (.int k b))=some (.val (.int k c),h):=by
 unfold z473 at e
 split at e
 ·cases e
 ·rename_i hb
  simp only[Option.some.injEq] at e;subst e;simp only[z75,binA,z41f,z3dc,if_neg hb,if_true,z1a5]
theorem z2a5{k:IntKind}{a b c:Int}{lit:Bool}(e:remI k a b=some c):z75 P h .rem t lit (some (.int k a)) (some (.int k b))=some (.val (.int k c),h):=by
 unfold remI at e
 split at e
 ·cases e
 ·rename_i hb
  simp only[Option.some.injEq] at e;subst e;simp only[z75,binA,z41f,z3dc,if_neg hb,if_true,z1a5]
theorem shl_int{k k':IntKind}{a b c:Int}{lit:Bool}(e:shlI k a b=some c):z75 P h .shl t lit (some (.int k a)) (some (.int k' b))=some (.val (.int k c),h):=by
 unfold shlI at e
 split at e
 ·cases e
 ·rename_i hb
  simp only[Option.some.injEq] at e;subst e;simp only[z75,binA,z41f,z1d3,if_neg hb,z1a5]
theorem z3f2{k k':IntKind}{a b c:Int}{lit:Bool}(e:shrI k a b=some c):z75 P h .shr t lit (some (.int k a)) (some (.int k' b))=some (.val (.int k c),h):=by
 unfold shrI at e
 split at e
 ·cases e
 ·rename_i hb
  simp only[Option.some.injEq] at e;subst e;simp only[z75,binA,z41f,z1d3,if_neg hb,z1a5]
def z2c(h:AHeap)(n:Nat):AV→Option (List AV)
 | .ptr b o=>z44 h b o n
 |_=>none
def zc(h:AHeap):AV→Option AV
 | .ptr b o=>z9e h b o
 | .gptr b o=>match h.get b with
  |some (.glob t)=>t.get o
  |_=>none
 |_=>none
def z22(h:AHeap)(n:Nat)(l:List AV):AV→Option AHeap
 | .ptr b o=>match Nat.beq l.length n with
  |true=>z1b3 h b o l
  |false=>none
 |_=>none
def z27(off:Nat):AV→Option AV
 | .ptr b o=>some (.ptr b (o+off))
 |_=>none
def z53:AV→Option AV
 | .ptr b o=>some (.ptr b o)
 | .fn f a b=>some (.fn f a b)
 | .ifc t v=>some (.ifc t v)
 |_=>none
def z150(sz:Nat):AV→Int→Option AV
 | .sl b o n _,.ofNat i=>match Nat.blt i n with
  |true=>some (.ptr b (o+i*sz))
  |false=>none
 |_,_=>none
def z169(n sz:Nat):AV→Int→Option AV
 | .ptr b o,.ofNat i=>match Nat.blt i n with
  |true=>some (.ptr b (o+i*sz))
  |false=>none
 | .gptr b o,.ofNat i=>match Nat.blt i n with
  |true=>some (.gptr b (o+i*sz))
  |false=>none
 |_,_=>none
def z12d:AV→Option Int
 | .sl _ _ n _=>some (n:Int)
 | .esl=>some 0
 | .nsl=>some 0
 |_=>none
def partF(off:Nat)(l:List AV):Option AV:=l[off]?
def z166(i:Nat):AV→Option AV
 | .tup l=>l[i]?
 |_=>none
def z13(h:AHeap):AV:=.ptr h.next 0
def newH(h:AHeap)(e:TypeId)(l:List AV):AHeap:=h.new (zb0 l e)
theorem z64{x:AV}{n:Nat}{l:List AV}(ha:z1ab P t=some true)(hn:P.cellsOf t=n)(e:z2c h n x=some l):za4 P h t (some x)=some (.val (.agg l),h):=by
 cases x<;>try (cases e;done)
 simp only[z2c] at e;simp only[za4,ha,hn,e]
theorem z14{x v:AV}(ha:z1ab P t=some false)(e:zc h x=some v):za4 P h t (some x)=some (.val v,h):=by
 cases x<;>try (cases e;done)
 ·simp only [zc] at e
  simp only[za4,ha,e,z1a5]
 ·simp only [zc] at e
  split at e
  ·rename_i hg
   simp only[za4,ha,hg,z9e,e,z1a5]
  ·cases e
theorem z55{x v:AV}{n:Nat}{h':AHeap}(hi:(P.info? t).isSome=true)(hn:P.cellsOf t=n)(e:z22 h n v.cells x=some h'):z252 P h t (some x) (some v)=some (.skip,h'):=by
 cases x<;>try (cases e;done)
 simp only[z22] at e
 split at e
 ·rename_i hl
  have hl:=Nat.eq_of_beq_eq_true hl;simp only[z252,hn,hl,hi,and_self,if_true,e]
 ·cases e
theorem z15{x v:AV}{s:TypeId}{f off:Nat}(hf:(match P.underlying s with
  |some (.struct fs)=>match fs[f]? with
   |some g=>Nat.blt 0 (P.cellsOf g.type)&&Nat.beq g.offset off
   |none=>false
  |_=>false)=true)(e:z27 off x=some v):z6d P h s f (some x)=some (.val v,h):=by
 cases x<;>try (cases e;done)
 simp only[z27,Option.some.injEq] at e;subst e
 split at hf
 ·rename_i fs hu
  split at hf
  ·rename_i g hg
   rw[Bool.and_eq_true] at hf;simp only[z6d,hu,hg,hf.1,if_true,Nat.eq_of_beq_eq_true hf.2]
  ·cases hf
 ·cases hf
theorem z2b{x v:AV}(e:z53 x=some v):z3b2 h (some x)=some (.val v,h):=by
 cases x<;>first|(cases e;done)|(simp only[z53,Option.some.injEq] at e;subst e;rfl)
theorem z180{x v:AV}{k:IntKind}{i:Int}{e':TypeId}{sz:Nat}(hu:elemOf P t=some e')(hi:(P.info? e').isSome=true)(hn:P.cellsOf e'=sz)(e:z150 sz x i=some v):z4c P h t (some x) (some (.int k i))=some (.val v,h):=by
 cases x<;>try (cases e;done)
 cases i with
 |negSucc i=>cases e
 |ofNat i=>
  simp only[z150] at e
  split at e
  ·rename_i hb
   simp only[Option.some.injEq] at e;subst e;simp only[z4c,hu,hb,hi,hn,and_self,if_true]
  ·cases e
theorem z132{x v:AV}{k:IntKind}{i:Int}{e':TypeId}{n sz:Nat}(hu:P.underlying t=some (.array n e'))(hi:(P.info? e').isSome=true)(hn:P.cellsOf e'=sz)(e:z169 n sz x i=some v):z4c P h t (some x) (some (.int k i))=some (.val v,h):=by
 cases x<;>try (cases e;done)
 all_goals
  cases i with
  |negSucc i=>cases e
  |ofNat i=>
   simp only[z169] at e
   split at e
   ·rename_i hb
    simp only[Option.some.injEq] at e;subst e;simp only[z4c,hu,hb,hi,hn,and_self,if_true]
   ·cases e
theorem z1b7{x:AV}{n:Int}{e':TypeId}(hu:P.underlying t=some (.slice e'))(e:z12d x=some n):z21b P h t x=some (.val (.int .i64 n),h):=by
 cases x<;>first|(cases e;done)|(simp only[z12d,Option.some.injEq] at e;subst e;simp only[z21b,hu])
theorem zc3{x v:AV}{i:Nat}(e:z166 i x=some v):z95 h i (some x)=some (.val v,h):=by
 cases x<;>try (cases e;done)
 simp only[z166] at e;simp only[z95,e,z1a5]
theorem field_one{l:List AV}{v:AV}{f off:Nat}(hf:(match P.underlying t with
  |some (.struct fs)=>match fs[f]? with
   |some g=>(z1ab P g.type == some false)&&Nat.beq g.offset off
   |none=>false
  |_=>false)=true)(e:partF off l=some v):z195 P h t f (some (.agg l))=some (.val v,h):=by
 split at hf
 ·rename_i fs hu
  split at hf
  ·rename_i g hg
   rw[Bool.and_eq_true] at hf;have h1:z1ab P g.type=some false:=by simpa using hf.1
   have h2:=Nat.eq_of_beq_eq_true hf.2;simp only[partF] at e;simp only[z195,hu,hg,z1f8,h1,h2,e,z1a5]
  ·cases hf
 ·cases hf
theorem eq_other{x y:AV}{b lit:Bool}(hx:(match x with| .int _ _| .str _ _| .nifc=>false|_=>true)=true)(e:z9f P t x y=some b):z75 P h .eql t lit (some x) (some y)=some (.val (.bool b),h):=by
 cases x<;>first|(cases hx;done)|(simp only[z75,binA,z1d4,e,z1a5])
theorem z220{x y:AV}{b lit:Bool}(hx:(match x with| .int _ _| .str _ _| .nifc=>false|_=>true)=true)(e:z9f P t x y=some b):z75 P h .neq t lit (some x) (some y)=some (.val (.bool (!b)),h):=by
 cases x<;>first|(cases hx;done)|(simp only[z75,binA,z1d4,e,z1a5])
end
section
variable {P:Program}{w0:Base}{m0:Map}{N:Nat}{l l':Fr}{ds:z8b}{h h':AHeap}{Q:Exit→Act→World→Prop}{K:Act→World→Prop}
theorem Go.bS{id id':Nat}(e:Nat.beq id' id=true)(hk:Go w0 m0 N (Q .normal) l ds h):Go w0 m0 N (Exit.inBlock id Q (.exit id')) l ds h:=fun m act w he ha F=>by
 have:=Nat.eq_of_beq_eq_true e;show if id'=id then _ else _
 rw[if_pos this];exact hk m act w he ha F
theorem Go.bO{id id':Nat}(e:Nat.beq id' id=false)(hk:Go w0 m0 N (Q (.exit id')) l ds h):Go w0 m0 N (Exit.inBlock id Q (.exit id')) l ds h:=fun m act w he ha F=>by
 have:¬id'=id:=fun h=>by subst h;rw[Nat.beq_refl] at e;cases e
 show if id'=id then _ else _
 rw[if_neg this];exact hk m act w he ha F
def Pan(w0:Base)(m0:Map)(N:Nat)(Q:Exit→Act→World→Prop)(l:Fr)(ds:z8b)(v:AV)(h':AHeap):Prop:=∀v' m,Ext m0 m→Rel m v v'→∀act w,RelAct m N ⟨l.tree,ds⟩ act→Fits w0 m h' w→Q (.panic [{v:=v',recovered:=false}]) act w
theorem Pan.t{v:AV}(hk:Pan w0 m0 N Q l ds v h'):Pan w0 m0 N (Exit.then K Q) l ds v h':=hk
theorem Pan.b{v:AV}{id:Nat}(hk:Pan w0 m0 N Q l ds v h'):Pan w0 m0 N (Exit.inBlock id Q) l ds v h':=hk
theorem y3f{v:AV}{fn:Func}:Pan w0 m0 N (Fin P fn w0 m0 (.panic v) h') l [] v h':=fun _ _ he hv _ _ ha F=>z3f9 he hv ha F
end
section
variable {P:Program}{w0:Base}{m0:Map}{N:Nat}{l l':Fr}{ds:z8b}{h h':AHeap}{Q:Exit→Act→World→Prop}
theorem W.seqK{c:Code}(hc:Code.kind c=1)(hk:∀K:Exit→Act→World→Prop,(∀{ds:z8b} {l:Fr} {h:AHeap},W P w0 m0 N (y5 c) Q l ds h→Go w0 m0 N (K .normal) l ds h)→
  (∀{id:Nat} {ds:z8b} {l:Fr} {h:AHeap},Go w0 m0 N (Q (.exit id)) l ds h→Go w0 m0 N (K (.exit id)) l ds h)→(∀{ds:z8b} {l:Fr} {h:AHeap},Go w0 m0 N (Q .ret) l ds h→Go w0 m0 N (K .ret) l ds h)→
  (∀{ds:z8b} {l:Fr} {v:AV} {h:AHeap},Pan w0 m0 N Q l ds v h→Pan w0 m0 N K l ds v h)→W P w0 m0 N (y6 c) K l ds h):W P w0 m0 N c Q l ds h:=
 W.seq hc (hk _ (fun h=>h) (fun h=>h) (fun h=>h) (fun h=>h))
theorem W.blockK{c:Code}(hc:Code.kind c=3)(hk:∀K:Exit→Act→World→Prop,(∀{ds:z8b} {l:Fr} {h:AHeap},Go w0 m0 N (Q .normal) l ds h→Go w0 m0 N (K .normal) l ds h)→
  (∀{id:Nat} {ds:z8b} {l:Fr} {h:AHeap},Nat.beq id (Code.num c)=true→Go w0 m0 N (Q .normal) l ds h→Go w0 m0 N (K (.exit id)) l ds h)→
  (∀{id:Nat} {ds:z8b} {l:Fr} {h:AHeap},Nat.beq id (Code.num c)=false→Go w0 m0 N (Q (.exit id)) l ds h→Go w0 m0 N (K (.exit id)) l ds h)→(∀{ds:z8b} {l:Fr} {h:AHeap},Go w0 m0 N (Q .ret) l ds h→Go w0 m0 N (K .ret) l ds h)→
  (∀{ds:z8b} {l:Fr} {v:AV} {h:AHeap},Pan w0 m0 N Q l ds v h→Pan w0 m0 N K l ds v h)→W P w0 m0 N (y6 c) K l ds h):W P w0 m0 N c Q l ds h:=
 W.block hc (hk _ (fun h=>h) (fun e h=>Go.bS e h) (fun e h=>Go.bO e h) (fun h=>h) (fun h=>h))
theorem W.loopK{c:Code}(hc:Code.kind c=4)(hk:∀(I:Act→World→Prop) (K:Exit→Act→World→Prop),(∀{ds:z8b} {l:Fr} {h:AHeap},W P w0 m0 N (y6 c) K l ds h→Go w0 m0 N I l ds h)→
  (∀{ds:z8b} {l:Fr} {h:AHeap},Go w0 m0 N I l ds h→Go w0 m0 N (K .normal) l ds h)→(∀{id:Nat} {ds:z8b} {l:Fr} {h:AHeap},Go w0 m0 N (Q (.exit id)) l ds h→Go w0 m0 N (K (.exit id)) l ds h)→
  (∀{ds:z8b} {l:Fr} {h:AHeap},Go w0 m0 N (Q .ret) l ds h→Go w0 m0 N (K .ret) l ds h)→(∀{ds:z8b} {l:Fr} {v:AV} {h:AHeap},Pan w0 m0 N Q l ds v h→Pan w0 m0 N K l ds v h)→
  Go w0 m0 N I l ds h):W P w0 m0 N c Q l ds h:=
 W.loop hc (hk _ _ (fun h=>Go.round h) (fun h=>h) (fun h=>h) (fun h=>h) (fun h=>h))
def z2a(fn:Func):Code:=fn.body.getD .skip
theorem z3ed{o:z8a}{v:AV}{h1 h2:AHeap}(e:h1=h2)(hk:o=some (.val v,h2)):o=some (.val v,h1):=by rw[e];exact hk
def z45d(P:Program)(t:TypeId)(ps:List (Nat×AV)):Option (List AV):=match z176 P t with
 |some z=>match P.underlying t with
  |some (.struct fs)=>if z366 P fs then z258 (z18b P fs) z.cells ps else none
  |some (.array _ e)=>if (P.info? e).isSome then z258 (fun i=>some (i*P.cellsOf e,P.cellsOf e)) z.cells ps else none
  |_=>none
 |none=>none
theorem z32c{o:z8a}{t:TypeId}{ps:List (Nat×AV)}{l:List AV}(ho:o=z1e4 h (z45d P t ps))(e:z45d P t ps=some l):o=some (.val (.agg l),h):=by rw[ho,e];rfl
def noPartsV:List (Nat×AV)→Bool
 |[]=>true
 |_=>false
def z1df(P:Program)(h:AHeap)(t:TypeId)(len:Nat)(ps:List (Nat×AV)):z8a:=match elemOf P t with
 |some e=>match z176 P e with
  |some z=>match len with
   |0=>if noPartsV ps=true then z83 h e [] 0 (P.cellsOf e) else none
   | len + 1 => if (len + 1) * P.cellsOf e ≤ 1000000 ∧ 0 < P.cellsOf e then
     match z258 (fun i=>some (i*P.cellsOf e,P.cellsOf e)) (List.replicate (len+1) z.cells).flatten ps with
     |some cs=>z83 h e cs (len+1) (P.cellsOf e)
     |none=>none
    else none
  |none=>none
 |none=>none
def panK(x:AV)(h:AHeap):R:=match x with
 | .ifc t v=>some (.panic (.ifc t v),h)
 |_=>none
theorem z2ac{x:AV}{r:ARes×AHeap}(e:panK x h=some r):∃t v,x=.ifc t v∧some (ARes.panic (.ifc t v),h)=some r:=by
 cases x<;>try (cases e;done)
 simp only[panK,Option.some.injEq] at e;exact⟨_,_,rfl,by rw[e]⟩
def z340(h:AHeap)(id:Nat)(e:TypeId)(cells:List AV):Bool:=match h.get id with
 |some (.row n t e')=>Nat.beq n cells.length&&Nat.beq e' e&&z2a2 (t.take 0 n) cells
 |_=>false
def z86(P:Program)(h:AHeap)(t:TypeId)(x v:AV):Bool:=z24a (z49a (za4 P h t (some x))) (some v)
theorem zd{g:Nat→Option AV}:z119 P g h []=some []:=rfl
theorem res_tmp{g:Nat→Option AV}{t:Nat}{v:AV}{rs:List ResultVar}{vs:List AV}(e:g t=some v)(k:z119 P g h rs=some vs):z119 P g h (.tmp t::rs)=some (v::vs):=by
 simp only[z119,resG,e,k]
theorem z288{g:Nat→Option AV}{t ty:Nat}{p v:AV}{rs:List ResultVar}{vs:List AV}(e:g t=some p)(e2:za4 P h ty (some p)=some (.val v,h))(k:z119 P g h rs=some vs):z119 P g h (.cell t ty::rs)=some (v::vs):=by
 simp only[z119,resG,e,e2,k]
theorem leave_of{fn:Func}{rs:List ResultVar}{vs:List AV}{v:AV}(hrs:fn.results.toList=rs)(hv:z119 P l.get h rs=some vs)(hr:z3a6 h (some vs)=some (.ret v,h)):
  Go w0 m0 N (Fin P fn w0 m0 (.ret v) h .ret) l [] h:=y47 (by rw[hrs,hv,hr])
theorem leaveN_of{fn:Func}{rs:List ResultVar}{vs:List AV}{v:AV}(hrs:fn.results.toList=rs)(hv:z119 P l.get h rs=some vs)(hr:z3a6 h (some vs)=some (.ret v,h)):
  Go w0 m0 N (Fin P fn w0 m0 (.ret v) h .normal) l [] h:=Go.leaveN (by rw[hrs,hv,hr])
end
end
noncomputable section
open Go.RowKit
structure Above (h h':AHeap):Prop where
 next:h.next≤h'.next
 ex:h'.ex=h.ex
 get:∀b,b<h.next→h'.get b=h.get b
theorem Above.trans{a b c:AHeap}(h:Above a b)(k:Above b c):Above a c:=⟨Nat.le_trans h.next k.next,k.ex.trans h.ex,fun i hi=>(k.get i (Nat.lt_of_lt_of_le hi h.next)).trans (h.get i hi)⟩
theorem Above.new{a h:AHeap}(k:Above a h)(o:AObj):Above a (h.new o):=⟨Nat.le_succ_of_le k.next,k.ex,fun b hb=>(z1b o (by have:=k.next;omega)).trans (k.get b hb)⟩
theorem Above.newH{a h:AHeap}(k:Above a h)(e:TypeId)(l:List AV):Above a (newH h e l):=k.new _
theorem Above.put{a h:AHeap}(k:Above a h){b:Nat}(hb:a.next≤b)(o:AObj):Above a (h.put b o):=⟨k.next,k.ex,fun i hi=>(z16 o (by omega)).trans (k.get i hi)⟩
mutual
def AV.lo(n:Nat):AV→Bool
 | .bool _| .int _ _| .str _ _| .nilp| .nsl| .esl| .nmp| .nfn| .nifc=>true
 | .ptr b _=>Nat.blt b n
 | .sl b _ _ _=>Nat.blt b n
 | .mp b=>Nat.blt b n
 | .fn _ a b=>y2f n a&&y2f n b
 | .ifc _ v=>AV.lo n v
 | .agg l=>y2f n l
 | .tup l=>y2f n l
 | .yld b=>Nat.blt b n
 | .mrk _=>false
 | .gptr _ _=>true
def y2f(n:Nat):List AV→Bool
 |[]=>true
 |x::l=>AV.lo n x&&y2f n l
end
theorem z28f{m m':Map}(hx:Ext m m'){b:Nat}{p:Nat×Nat×Nat}(hb:b<m.length)(h:m'[b]? =some (some p)):m[b]? =some (some p):=by
 cases e:m[b]? with
 |none=>rw[List.getElem?_eq_none_iff] at e;omega
 |some q=>
  cases q with
  |none=>rw[hx.virt b e] at h;cases h
  |some q=>rw[hx.le b q e] at h;exact h
theorem blt_lt'{a b:Nat}(h:Nat.blt a b=true):a<b:=Nat.le_of_ble_eq_true h
mutual
theorem Rel.back{m m':Map}(hx:Ext m m'):∀{x:AV} {y:Value},Rel m' x y→x.lo m.length=true→Rel m x y
 |_,_,.bool b,_=>.bool b
 |_,_,.int k n,_=>.int k n
 |_,_,.str s hn hv,_=>.str s hn hv
 |_,_,.ptr e,h=>.ptr (z28f hx (blt_lt' (by simpa only[AV.lo] using h)) e)
 |_,_,.nilp,_=>.nilp
 |_,_,.sl e a b,h=>.sl (z28f hx (blt_lt' (by simpa only[AV.lo] using h)) e) a b
 |_,_,.nsl,_=>.nsl
 |_,_,.esl a c,_=>.esl a c
 |_,_,.mp e,h=>.mp (z28f hx (blt_lt' (by simpa only[AV.lo] using h)) e)
 |_,_,.nmp,_=>.nmp
 |_,_,.fn a b,h=>by
  simp only[AV.lo,Bool.and_eq_true] at h;exact .fn (RelL.back hx a h.1) (RelL.back hx b h.2)
 |_,_,.nfn,_=>.nfn
 |_,_,.ifc a,h=>by
  simp only[AV.lo] at h;exact .ifc (Rel.back hx a h)
 |_,_,.nifc,_=>.nifc
 |_,_,.agg a,h=>by
  simp only[AV.lo] at h;exact .agg (RelL.back hx a h)
 |_,_,.tup a,h=>by
  simp only[AV.lo] at h;exact .tup (RelL.back hx a h)
 |_,_,.yld e,h=>.yld (z28f hx (blt_lt' (by simpa only[AV.lo] using h)) e)
 |_,_,.gptr g o,_=>.gptr g o
theorem RelL.back{m m':Map}(hx:Ext m m'):∀{x:List AV} {y:List Value},RelL m' x y→y2f m.length x=true→RelL m x y
 |_,_,.nil,_=>.nil
 |_,_,.cons a b,h=>by
  simp only[y2f,Bool.and_eq_true] at h;exact .cons (Rel.back hx a h.1) (RelL.back hx b h.2)
end
theorem z43e{a b:Nat}(h:a<b):Nat.blt a b=true:=Nat.ble_eq_true_of_le h
theorem z33b{m:Map}{b:Nat}{p:Option (Nat×Nat×Nat)}(h:m[b]? =some p):b<m.length:=(List.getElem?_eq_some_iff.1 h).1
mutual
theorem Rel.lo{m:Map}:∀{x:AV} {y:Value},Rel m x y→x.lo m.length=true
 |_,_,.bool b=>rfl
 |_,_,.int k n=>rfl
 |_,_,.str s hn hv=>rfl
 |_,_,.ptr e=>z43e (z33b e)
 |_,_,.nilp=>rfl
 |_,_,.sl e a b=>z43e (z33b e)
 |_,_,.nsl=>rfl
 |_,_,.esl a c=>rfl
 |_,_,.mp e=>z43e (z33b e)
 |_,_,.nmp=>rfl
 |_,_,.fn a b=>by
  simp only[AV.lo,Bool.and_eq_true];exact⟨RelL.lo a,RelL.lo b⟩
 |_,_,.nfn=>rfl
 |_,_,.ifc a=>by
  simp only[AV.lo];exact Rel.lo a
 |_,_,.nifc=>rfl
 |_,_,.agg a=>by
  simp only[AV.lo];exact RelL.lo a
 |_,_,.tup a=>by
  simp only[AV.lo];exact RelL.lo a
 |_,_,.yld e=>z43e (z33b e)
 |_,_,.gptr _ _=>rfl
theorem RelL.lo{m:Map}:∀{x:List AV} {y:List Value},RelL m x y→y2f m.length x=true
 |_,_,.nil=>rfl
 |_,_,.cons a b=>by
  simp only[y2f,Bool.and_eq_true];exact⟨Rel.lo a,RelL.lo b⟩
end
section
variable {w0:Base}{w w':World}{m m':Map}{h h':AHeap}
theorem RelM.back(hx:Ext m m'):∀{es:List (AV×AV)} {es' es2:List MapEntry},RelM m' es es'→RelM m es es2→RelM m es es':=by
 intro es
 induction es with
 |nil=>intro es' es2 h _;cases h;exact .nil
 |cons p es ih=>
  intro es' es2 h k;cases h with|cons a b c=>
  cases k with|cons a2 b2 c2=>
  exact .cons (a.back hx a2.lo) (b.back hx b2.lo) (ih c c2)
theorem Fits.drop(F:Fits w0 m h w)(hx:Ext m m')(F':Fits w0 m' h' w')(ha:Above h h'):Fits w0 m h w' where
 below:=F'.below
 floor:=F'.floor
 pin k o hk:=⟨(F'.pin k o hk).1,fun b o2 s z hb ho hm=>(F'.pin k o hk).2 b o2 s z (by rw[ha.get b (F.lt_next hb)];exact hb) ho (hx.le b _ hm)⟩
 len:=F.len
 fresh:=F.fresh
 wf:=F.wf
 row b n t e g s z hb hm:=by
  have hlt:=F.lt_next hb;have hb':h'.get b=some (.row n t e):=by rw[ha.get b hlt];exact hb
  obtain⟨h1,c,fz,a1,a2,a3,a4,a5,a6⟩:=F'.row b n t e g s z hb' (hx.le b _ hm);obtain⟨_,c0,fz0,b1,b2,b3,b4,b5,b6⟩:=F.row b n t e g s z hb hm;refine⟨h1,c,fz,a1,a2,a3,a4,a5,fun i hi=>?_⟩;obtain⟨x,y,e1,e2,e3,e4⟩:=a6 i hi;obtain⟨x0,y0,f1,f2,f3,f4⟩:=b6 i hi;rw[e1] at f1;simp only[Option.some.injEq] at f1;subst f1;exact⟨x,y,e1,e2,e3.back hx f3.lo,e4⟩
 map b es g s z hb hm:=by
  have hlt:=F.lt_next hb;have hb':h'.get b=some (.map es):=by rw[ha.get b hlt];exact hb
  obtain⟨h1,h2,h3,es',ck,a1,a2⟩:=F'.map b es g s z hb' (hx.le b _ hm);obtain⟨_,_,_,es2,ck2,b1,b2⟩:=F.map b es g s z hb hm;exact⟨h1,h2,h3,es',ck,a1,a2.back hx b2⟩
 glob:=F.glob
 obj b q g s z hb hm:=by
  have hlt:=F.lt_next hb;have hb':h'.get b=some (.obj q):=by rw[ha.get b hlt];exact hb
  obtain⟨h1,h2,h3,hk⟩:=F'.obj b q g s z hb' (hx.le b _ hm);obtain⟨_,_,_,hk0⟩:=F.obj b q g s z hb hm;refine⟨h1,h2,h3,?_⟩
  cases q with
  |dfr=>exact hk
  |shut=>exact hk
  |loop r=>
   obtain⟨r',a1,a2,a3,a4,a5,a6,a7,a8,a9⟩:=hk;obtain⟨r0,b1,b2,b3,b4,b5,b6,b7,b8,b9⟩:=hk0;refine⟨r',a1,a2,a3,a4,fun t v hv=>?_,a6,a7,a8,?_⟩
   ·obtain ⟨v', c1, c2⟩ := a5 t v hv
    obtain⟨v0,d1,d2⟩:=b5 t v hv;exact⟨v',c1,c2.back hx d2.lo⟩
   ·have := hx.le _ _ b9
    rw[a9] at this;rw[b9, ←this]
 exact b n t e g s z hb hm he:=by
  have hlt:=F.lt_next hb;have hb':h'.get b=some (.row n t e):=by rw[ha.get b hlt];exact hb
  exact F'.exact b n t e g s z hb' (hx.le b _ hm) (by rw[ha.ex];exact he)
 ro:=F.ro
 sep:=F.sep
theorem RetOK.drop{r:ARes}{e:Ending}(F:Fits w0 m h w)(hr:RetOK w0 m h' r e w')(ha:Above h h')(hv:r.val.lo h.next=true):RetOK w0 m h r e w':=by
 obtain⟨m',hx,F',hres⟩:=hr;refine⟨m,Ext.refl m,F.drop hx F' ha,?_⟩;rw[←F.len] at hv
 cases r with
 |ret v=>obtain⟨v',e1,e2⟩:=hres;exact⟨v',e1,e2.back hx hv⟩
 |panic v=>obtain⟨v',e1,e2⟩:=hres;exact⟨v',e1,e2.back hx hv⟩
end
theorem Says.drop{P:Program}{f:FuncId}{args:List AV}{h h':AHeap}{r:ARes}(hs:Says P f args h r h')(ha:Above h h')(hv:r.val.lo h.next=true):Says P f args h r h:=
 fun w0 m w args' hra F=>Calls.keep (hs w0 m w args' hra F) fun _ _ hr=>hr.drop F ha hv
mutual
theorem y35(n:Nat):∀(x:AV),x.scal=true→x.lo n=true
 | .bool _,_=>rfl
 | .int _ _,_=>rfl
 | .str _ _,_=>rfl
 | .nilp,_=>rfl
 | .nsl,_=>rfl
 | .nmp,_=>rfl
 | .nfn,_=>rfl
 | .nifc,_=>rfl
 | .fn _ a b,h=>by
  simp only[AV.scal,Bool.and_eq_true] at h;simp only[AV.lo,Bool.and_eq_true];exact⟨y26 n a h.1,y26 n b h.2⟩
 | .ifc _ v,h=>by
  simp only[AV.scal] at h;simp only[AV.lo];exact y35 n v h
 | .agg l,h=>by
  simp only[AV.scal] at h;simp only[AV.lo];exact y26 n l h
 | .tup l,h=>by
  simp only[AV.scal] at h;simp only[AV.lo];exact y26 n l h
 | .ptr _ _,h=>by simp[AV.scal] at h
 | .sl _ _ _ _,h=>by simp[AV.scal] at h
 | .esl,h=>by simp[AV.scal] at h
 | .mp _,h=>by simp[AV.scal] at h
theorem y26(n:Nat):∀(l:List AV),y2d l=true→y2f n l=true
 |[],_=>rfl
 |x::l,h=>by
  simp only[y2d,Bool.and_eq_true] at h;simp only[y2f,Bool.and_eq_true];exact⟨y35 n x h.1,y26 n l h.2⟩
end
open Classical in
def gcR(h:AHeap)(x:R):R:=match x with
 |some (r,h')=>if Above h h'∧r.val.lo h.next=true then some (r,h) else some (r,h')
 |none=>none
def gcF(s:FnT):FnT:=fun args h=>gcR h (s args h)
theorem z25{P:Program}{f:FuncId}{s:FnT}(hs:z376 P f s):z376 P f (gcF s):=by
 intro args h r h' e;unfold gcF gcR at e
 split at e
 ·rename_i r2 h2 e2
  split at e
  ·rename_i hc
   simp only[Option.some.injEq,Prod.mk.injEq] at e;obtain⟨rfl,rfl⟩:=e;exact(hs _ _ _ _ e2).drop hc.1 hc.2
  ·simp only [Option.some.injEq, Prod.mk.injEq] at e
   obtain⟨rfl,rfl⟩:=e;exact hs _ _ _ _ e2
 ·cases e
theorem gcR_same{h h':AHeap}{r:ARes}(ha:Above h h')(hv:r.val.lo h.next=true):gcR h (some (r,h'))=some (r,h):=by
 simp only[gcR,ha,hv,and_self,if_true]
theorem z35f{h h':AHeap}{r:ARes}(ha:Above h h')(hv:r.val.scal=true):gcR h (some (r,h'))=some (r,h):=gcR_same ha (y35 _ _ hv)
theorem z443{h:AHeap}{r:ARes}:gcR h (some (r,h))=some (r,h):=by
 simp only[gcR]
 split<;>rfl
theorem z35e{h h':AHeap}{r:ARes}(hv:r.val.lo h.next=false):gcR h (some (r,h'))=some (r,h'):=by
 simp only[gcR,hv,and_false,if_false,Bool.false_eq_true]
def iterW(f:z10→z10):Nat→z10
 |0=>fun _ _ _=>none
 |d+1=>f (iterW f d)
theorem z441{P:Program}{f:z10→z10}(hf:∀call,SaysAll P call→SaysAll P (f call)):∀d,SaysAll P (iterW f d)
 |0=>fun _ _ _ _ _ h=>by cases h
 |d+1=>hf _ (z441 hf d)
theorem rel_str(m:Map)(s:ByteArray):Rel m (z5 s.data.toList) (.string s):=.str s rfl rfl
end
noncomputable section
open Go.RowKit
theorem z3e4{k:IntKind}(hk:k.signed=true)(x:Int):k.wrap x=if x%(2 ^ k.bits:Int)≥(2 ^ (k.bits - 1):Int) then x%(2 ^ k.bits:Int) - (2 ^ k.bits:Int) else x%(2 ^ k.bits:Int):=by
 simp[IntKind.wrap,hk]
theorem z187{k:IntKind}(hk:k.signed=false)(x:Int):k.wrap x=x%(2 ^ k.bits:Int):=by
 simp[IntKind.wrap,hk]
theorem z188{x:Int}(h1: -9223372036854775808≤x)(h2:x<9223372036854775808):IntKind.i64.wrap x=x:=by
 rw[z3e4 rfl,show ((2:Int) ^ IntKind.i64.bits)=18446744073709551616 from rfl,show ((2:Int) ^ (IntKind.i64.bits - 1))=9223372036854775808 from rfl]
 split<;>omega
theorem z290(x:Int):IntKind.u8.wrap x=x%256:=z187 rfl x
theorem z12e(x:Int):IntKind.u64.wrap x=x%18446744073709551616:=z187 rfl x
theorem z12f(x:Int):IntKind.u32.wrap x=x%4294967296:=z187 rfl x
theorem z16d{l:Bytes}{i:Nat}(h:i<l.length):z3c1 l (i:Int)=some ((l[i]).toNat:Int):=by
 show (match l[i]? with|some b=>some (b.toNat:Int)|none=>none)=_;rw[List.getElem?_eq_getElem h]
theorem z46c{l:Bytes}{a b:Nat}(h1:a≤b)(h2:b≤l.length):z43 l (a:Int) (b:Int)=some ((l.drop a).take (b - a)):=by
 show (match Nat.ble a b&&Nat.ble b l.length with|true=>some ((l.drop a).take (b - a))|false=>none)=_;rw[Nat.ble_eq_true_of_le h1,Nat.ble_eq_true_of_le h2];rfl
theorem z2d(l:Bytes):z3b l=(l.length:Int):=rfl
theorem ze5{a b:Bytes}:eqS a b=true↔a=b:=by rw[eqS_eq];exact beq_iff_eq
theorem z3cd{a b:Bytes}:eqS a b=false↔a≠b:=by rw[eqS_eq];simp
theorem z35c(h:AHeap)(e:TypeId)(l:List AV):(newH h e l).get h.next=some (zb0 l e):=z3c _
theorem zf9(x:AV)(l:List AV):z166 0 (.tup (x::l))=some x:=rfl
theorem zf8(x y:AV)(l:List AV):z166 1 (.tup (x::y::l))=some y:=rfl
theorem z165(x y z:AV)(l:List AV):z166 2 (.tup (x::y::z::l))=some z:=rfl
theorem blt_self(n:Nat):Nat.blt n n=false:=by
 cases h:Nat.blt n n with
 |false=>rfl
 |true=>exact absurd (Nat.le_of_ble_eq_true h) (Nat.not_succ_le_self n)
theorem z2be{sz b o n k:Nat}{i:Nat}(h:i<n):z150 sz (.sl b o n k) (i:Int)=some (.ptr b (o+i*sz)):=by
 show (match Nat.blt i n with|true=>some (AV.ptr b (o+i*sz))|false=>none)=_;rw[show Nat.blt i n=true from Nat.ble_eq_true_of_le h]
end
noncomputable section
open Go.RowKit
section
variable {P:Program}{w0:Base}{m0:Map}{N:Nat}{l l':Fr}{ds:z8b}{h h' h1:AHeap}{r:ARes}{u u':Option AV}
theorem WL.dfr{Q:Exit→Act→World→Prop}{ops:Array Oper}{i:Nat}{d:Option Nat}{f:FuncId}{args cap:List AV}(hd:z145 N ops i=some d)(hw:z1d ops l.get i=some true)(hop:zd1 P l.eval ops i h=some (.defer f args cap,h'))(hk:WL P w0 m0 N ops (i+1) Q (l.put d (.tup [])) ((f,args,cap)::ds) h'):WL P w0 m0 N ops i Q l ds h:=by
 obtain⟨o,ho,hok,rfl⟩:=z167 hd;refine WL.step (v:=.tup []) (d:=o.dst) (ds':=(f,args,cap)::ds) (call:=z1c9) ho hok z161 ?_ hk;have hw:z41 ops l.get o.guard=some true:=by simpa [z1d,ho] using hw
 have hop:opA P l.eval o h=some (.defer f args cap,h'):=by simpa [zd1,ho] using hop
 simp only[z136,yf,hw,y10,hop,ze7,z39];rw[←y14]
end
end
noncomputable section
open Go.RowKit
section
variable {P:Program}{h:AHeap}{t u e:TypeId}{sz:Nat}
theorem z2fe(l:List AV):∀(n o:Nat),o+n≤l.length→(T.put .e 0 l).take o n=some ((l.drop o).take n)
 |0,o,_=>by simp[T.take]
 |n+1,o,ho=>by
  have h1:(T.put .e 0 l).get o=some (l[o]'(by omega)):=by
   rw[zd3];exact List.getElem?_eq_getElem (by omega)
  simp only[T.take,h1,z2fe l n (o+1) (by omega)];rw[List.drop_eq_getElem_cons (by omega:o<l.length),List.take_succ_cons]
theorem z3f3{l:List AV}{o n:Nat}(ho:o+n≤l.length):z44 (newH h e l) h.next o n=some ((l.drop o).take n):=by
 unfold z44;rw[z35c];exact z2fe l n o ho
theorem z3a3{l:List AV}:z91 (newH h e l) h.next=some e:=by
 unfold z91;rw[z35c];rfl
def z106(P:Program)(u:TypeId):Bool:=match P.underlying u with
 |some (.int _)=>false
 |some _=>true
 |none=>false
def z482(P:Program)(e B:Nat):Bool:=match P.info? e with
 |some i=>Nat.beq i.bytes B&&Nat.ble 1 i.size&&i.zero.any (fun z=>z.cells.size == i.size)
 |none=>false
theorem z3d8{B k:Nat}(hf:z482 P e B=true)(h1:k*B≤140737488355328)(h2:k≤140737488355328):zc9 P e k=true:=by
 unfold z482 at hf;unfold zc9
 split at hf
 ·rename_i i hi
  simp only[Bool.and_eq_true] at hf;have hb:=Nat.eq_of_beq_eq_true hf.1.1;simp only[hi,Bool.and_eq_true];exact⟨⟨⟨Nat.ble_eq_true_of_le (by rw[hb];exact h1),Nat.ble_eq_true_of_le h2⟩,hf.1.2⟩,hf.2⟩
 ·cases hf
theorem z31{B k:Nat}(hf:z482 P e B=true)(h1:k*B≤1000000000)(h2:k≤1000000000):zc9 P e k=true:=z3d8 hf (Nat.le_trans h1 (by decide)) (Nat.le_trans h2 (by decide))
theorem z128{x:AV}{n:Nat}{news:List AV}(he:elemOf P t=some e)(hu:z106 P u=true)(hsz:P.cellsOf e=sz)(hx:z205 x=some (n+1))(hf:z10d h sz (n+1) x=some news)(hfit:zc9 P e (n+1)=true)(h1:news.all AV.one=true)(hex:zbf e h.ex=false):
  z34 P h t u .nsl x=some (.val (.sl h.next 0 (n+1) sz),newH h e news):=by
 unfold z106 at hu;unfold z34;have hl:z205 .nsl=some 0:=rfl
 split at hu
 ·cases hu
 ·rename_i ud hni heq
  simp only[he,hl,hx,heq,hsz,hf,Nat.zero_add,hfit,h1,hex,and_self,if_true];rfl
 ·cases hu
theorem zc4{b o m:Nat}{x:AV}{n:Nat}{cs news:List AV}(he:elemOf P t=some e)(hu:z106 P u=true)(hsz:P.cellsOf e=sz)(hx:z205 x=some (n+1))(hf:z10d h sz (n+1) x=some news)(hfit:zc9 P e (m+(n+1))=true)(h1:news.all AV.one=true)(hex:zbf e h.ex=false)(hcs:z44 h b o (m*sz)=some cs)(hty:z91 h b=some e):
  z34 P h t u (.sl b o m sz) x=some (.val (.sl h.next 0 (m+(n+1)) sz),(h.put b .dead).new (zb0 (cs++news) e)):=by
 unfold z106 at hu;unfold z34;have hl:z205 (.sl b o m sz)=some m:=rfl
 split at hu
 ·cases hu
 ·rename_i ud hni heq
  simp only[he,hl,hx,heq,hsz,hf,hfit,h1,hex,and_self,if_true];simp only[z2da,if_true,z2d9,hcs,hty,Nat.beq_refl]
 ·cases hu
end
def z32(l:Bytes):List AV:=l.map fun x=>AV.int .u8 (x.toNat:Int)
theorem z5b(l:Bytes):(z32 l).length=l.length:=List.length_map ..
theorem z10e(a b:Bytes):z32 (a++b)=z32 a++z32 b:=List.map_append ..
theorem z126(l:Bytes):(z32 l).all AV.one=true:=by
 rw[List.all_eq_true];intro x hx;obtain⟨y,_,rfl⟩:=List.mem_map.1 hx;rfl
structure Ab (lo:Nat) (h h':AHeap):Prop where
 next:h.next≤h'.next
 ex:h'.ex=h.ex
 get:∀b,b<lo→h'.get b=h.get b
theorem Ab.refl(lo:Nat)(h:AHeap):Ab lo h h:=⟨Nat.le_refl _,rfl,fun _ _=>rfl⟩
theorem Ab.trans{lo:Nat}{a b c:AHeap}(h:Ab lo a b)(k:Ab lo b c):Ab lo a c:=⟨Nat.le_trans h.next k.next,k.ex.trans h.ex,fun i hi=>(k.get i hi).trans (h.get i hi)⟩
theorem Ab.put{lo:Nat}{a h:AHeap}(k:Ab lo a h){b:Nat}(hb:lo≤b)(o:AObj):Ab lo a (h.put b o):=⟨k.next,k.ex,fun i hi=>(z16 o (by omega)).trans (k.get i hi)⟩
theorem Ab.new{lo:Nat}{a h:AHeap}(k:Ab lo a h)(hb:lo≤h.next)(o:AObj):Ab lo a (h.new o):=⟨Nat.le_succ_of_le k.next,k.ex,fun i hi=>(z1b o (by omega)).trans (k.get i hi)⟩
theorem Above.ab{h h':AHeap}(k:Above h h'){lo:Nat}(hl:lo≤h.next):Ab lo h h':=⟨k.next,k.ex,fun b hb=>k.get b (by omega)⟩
end
noncomputable section
open Go.RowKit
section
variable {P:Program}{h:AHeap}{b k:Nat}{t:T AV}{e:TypeId}
def z432(P:Program)(s:TypeId):Bool:=match P.underlying s with
 |some (.pointer t)=>match P.info? t with
  |some i=> !(Nat.beq i.size 0)
  |none=>false
 |_=>false
def z28d(P:Program)(d:TypeId):Bool:=match P.underlying d with
 |some .unsafePointer=>true
 |_=>false
def z474(P:Program)(d u:TypeId):Bool:=match P.underlying d with
 |some (.pointer t)=>Nat.beq t u&&(P.info? u).isSome
 |_=>false
theorem z419{s d:TypeId}(hs:z432 P s=true)(hd:z28d P d=true)(hb:h.get b=some (.row (k+1) t e)):z7b P h s d (some (.ptr b 0))=some (.val (.ptr b 0),h):=by
 simp only[z7b,z261];unfold z432 at hs;unfold z28d at hd;cases h1:P.underlying s with
 |none=>simp only[h1] at hs;cases hs
 |some us=>
  cases us<;>simp only[h1,reduceCtorEq] at hs
  rename_i pt;cases h2:P.info? pt with
  |none=>simp only[h2,reduceCtorEq] at hs
  |some i=>
   simp only[h2] at hs;cases h3:P.underlying d with
   |none=>simp only[h3] at hd;cases hd
   |some ud=>
    cases ud<;>simp only[h3,reduceCtorEq] at hd
    simp only[hb,h2];rw[if_pos ⟨Nat.ble_eq_true_of_le (by omega),by simpa using hs⟩]
theorem conv_safe{s d u:TypeId}(hs:z28d P s=true)(hd:z474 P d u=true)(hb:h.get b=some (.row k t e))(hx:zbf e h.ex=true)(hl:liesAt P P.depth e (k/P.cellsOf e) 0 u 1=true):z7b P h s d (some (.ptr b 0))=some (.val (.ptr b 0),h):=by
 simp only[z7b,z261];unfold z474 at hd;unfold z28d at hs;cases h1:P.underlying s with
 |none=>simp only[h1] at hs;cases hs
 |some us=>
  cases us<;>simp only[h1,reduceCtorEq] at hs
  cases h3:P.underlying d with
  |none=>simp only[h3] at hd;cases hd
  |some ud=>
   cases ud<;>simp only[h3,reduceCtorEq] at hd
   rename_i pt;simp only[Bool.and_eq_true] at hd;have h4:=Nat.eq_of_beq_eq_true hd.1;subst h4;simp only[hb];rw[if_pos ⟨hx,hl,hd.2⟩]
theorem z1a0:∀l:Bytes,∃v,z1bd (z32 l)=some (l.length,v)∧AV.str l.length v=z5 l
 |[]=>⟨0,rfl,rfl⟩
 |x::l=>by
  obtain⟨v,h1,h2⟩:=z1a0 l;refine⟨x.toNat+256*v,?_,?_⟩
  ·show z1bd (.int .u8 (Int.ofNat x.toNat) :: z32 l) = _
   have hx:Nat.blt x.toNat 256=true:=Nat.ble_eq_true_of_le (by have:=x.toNat_lt;omega);simp only[z1bd,h1,hx,if_true,List.length_cons]
  ·have h3 : v = enc l := by
    simp only[z5,AV.str.injEq] at h2;exact h2.2
   rw[h3];rfl
theorem eql_self{ty u:TypeId}{o:Nat}{lit:Bool}(hd:z474 P ty u=true):z75 P h .eql ty lit (some (.ptr b o)) (some (.ptr b o))=some (.val (.bool true),h):=by
 unfold z474 at hd;cases h3:P.underlying ty with
 |none=>simp only[h3] at hd;cases hd
 |some ud=>
  cases ud<;>simp only[h3,reduceCtorEq] at hd
  simp only[Bool.and_eq_true] at hd;have h4:=Nat.eq_of_beq_eq_true hd.1;subst h4
  have h5:z191 P ty b o (.ptr b o)=some true:=by
   simp only[z191,h3];rw[if_pos ⟨Nat.beq_refl b,Nat.beq_refl o,hd.2⟩]
  show z1a5 h (match z191 P ty b o (.ptr b o) with|some b=>some (.bool b)|none=>none)=_;rw[h5];rfl
theorem neq_self{ty u:TypeId}{o:Nat}{lit:Bool}(hd:z474 P ty u=true):z75 P h .neq ty lit (some (.ptr b o)) (some (.ptr b o))=some (.val (.bool false),h):=by
 unfold z474 at hd;cases h3:P.underlying ty with
 |none=>simp only[h3] at hd;cases hd
 |some ud=>
  cases ud<;>simp only[h3,reduceCtorEq] at hd
  simp only[Bool.and_eq_true] at hd;have h4:=Nat.eq_of_beq_eq_true hd.1;subst h4
  have h5:z191 P ty b o (.ptr b o)=some true:=by
   simp only[z191,h3];rw[if_pos ⟨Nat.beq_refl b,Nat.beq_refl o,hd.2⟩]
  show z1a5 h (match z191 P ty b o (.ptr b o) with|some b=>some (.bool (!b))|none=>none)=_;rw[h5];rfl
theorem z213:z24a (some AV.nsl) (some .nsl)=true:=by simp[z24a,AV.same]
theorem z4aa(c o n sz:Nat):z24a (some (AV.sl c o n sz)) (some (.sl c o n sz))=true:=by simp[z24a,AV.same]
theorem zbd{ty:TypeId}{x v:AV}(ha:z1ab P ty=some false)(e:zc h x=some v)(hs:z24a (some v) (some v)=true):z86 P h ty x v=true:=by
 unfold z86;rw[z14 ha e];exact hs
def ptrCell(P:Program)(pt e:TypeId):Bool:=match P.underlying pt with
 |some (.pointer t)=>Nat.beq e t&&Nat.beq (P.cellsOf t) 1
 |_=>false
theorem z20e{pt U:TypeId}{l:Bytes}{kk:IntKind}{c:Nat}(hp:ptrCell P pt U=true)(hl:l≠[])(hn:l.length≤1000000000)(hr:z44 h c 0 l.length=some (z32 l))(ht:z91 h c=some U):
  zbe P h pt (.ptr c 0) (.int kk (l.length:Int))=some (.val (z5 l),h.put c .dead):=by
 cases l with
 |nil=>exact absurd rfl hl
 |cons x l=>
  obtain⟨v,h1,h2⟩:=z1a0 (x::l);show zbe P h pt (.ptr c 0) (.int kk (.ofNat (l.length+1)))=_;simp only[zbe];unfold ptrCell at hp;cases h3:P.underlying pt with
  |none=>simp only[h3] at hp;cases hp
  |some ud=>
   cases ud<;>simp only[h3,reduceCtorEq] at hp
   simp only[Bool.and_eq_true] at hp;simp only[List.length_cons] at hr hn h1 h2;simp only[hr,ht];rw[if_pos ⟨hp.1,hp.2,Nat.ble_eq_true_of_le hn⟩];simp only[h1,h2]
end
end
noncomputable section
open Go.RowKit
theorem z265:∀l:Bytes,z13e l.length (enc l)=z32 l
 |[]=>rfl
 |x::l=>by
  have hx:=x.toNat_lt;show AV.int .u8 (((enc (x::l))%256:Nat):Int)::z13e l.length (enc (x::l)/256)=_;rw[show enc (x::l)%256=x.toNat from by rw[zb2];omega,show enc (x::l)/256=enc l from by rw[zb2];omega,z265 l];rfl
section
variable {P:Program}{h:AHeap}{TB U8 lo b:Nat}{l:Bytes}
theorem zf7(l2:Bytes):z10d h 1 l2.length (z5 l2)=some (z32 l2):=by
 show (if Nat.ble l2.length l2.length=true∧1=1 then some (z13e l2.length (enc l2)) else none)=_;rw[if_pos ⟨Nat.ble_eq_true_of_le (Nat.le_refl _),rfl⟩,z265]
theorem z46f{e:TypeId}{cs:List AV}{c o n:Nat}(hc:c<h.next):z44 (newH h e cs) c o n=z44 h c o n:=by
 unfold z44 newH;rw[z1b _ (by omega)]
end
end
noncomputable section
open Go.RowKit
section
variable {P:Program}{h:AHeap}{U8 lo:Nat}{l:Bytes}{t u:TypeId}{x v:AV}
def isStr(P:Program)(d:TypeId):Bool:=match P.underlying d with
 |some .string=>true
 |_=>false
def z406(P:Program)(s:TypeId):Bool:=match P.underlying s with
 |some (.slice e)=>match P.underlying e with
  |some (.int .u8)=>true
  |_=>false
 |_=>false
end
end
noncomputable section
open Go.RowKit Go.WideShapes
def Keeps(h h':AHeap):Prop:=h.next≤h'.next∧h'.ex=h.ex∧∀b o,h.get b=some o→h'.get b=some o
theorem Keeps.refl(h:AHeap):Keeps h h:=⟨Nat.le_refl _,rfl,fun _ _ k=>k⟩
theorem Keeps.trans{a b c:AHeap}(h:Keeps a b)(k:Keeps b c):Keeps a c:=⟨Nat.le_trans h.1 k.1,k.2.1.trans h.2.1,fun i o x=>k.2.2 i o (h.2.2 i o x)⟩
def z277(h:AHeap):Prop:=∀b o,h.get b=some o→o.alive=false
def z328(P:Program):List Field→Nat→Option Nat
 |[],o=>some o
 |f::fs,o=>match Nat.beq f.offset o with
  |true=>z328 P fs (o+P.cellsOf f.type)
  |false=>none
def z218(P:Program):Nat→TypeId→Bool
 |0,_=>false
 |n+1,t=>match P.underlying t with
  |some .bool=>Nat.beq (P.cellsOf t) 1
  |some (.int _)=>Nat.beq (P.cellsOf t) 1
  |some .string=>Nat.beq (P.cellsOf t) 1
  |some (.struct fs)=>(match z328 P fs.toList 0 with
   |some z=>Nat.beq z (P.cellsOf t)
   |none=>false)&&fs.toList.all (fun f=>z218 P n f.type)
  |some (.array k e)=>Nat.beq (k*P.cellsOf e) (P.cellsOf t)&&z218 P n e
  |some (.slice e)=>Nat.beq (P.cellsOf t) 1&&Nat.blt 0 (P.cellsOf e)&&z218 P n e
  |_=>false
def RowLike(h:AHeap)(b:Nat)(l:List AV):Prop:=∃t,(h.get b=some (.ro t)∨∃n e,h.get b=some (.row n t e))∧∀i,i<l.length→t.get i=l[i]?
theorem RowLike.same{h h':AHeap}{b:Nat}{l:List AV}(k:RowLike h b l)(hk:∀o,h.get b=some o→h'.get b=some o):RowLike h' b l:=by
 obtain⟨t,h1,h2⟩:=k
 rcases h1 with h1|⟨n,e,h1⟩
 ·exact⟨t,.inl (hk _ h1),h2⟩
 ·exact⟨t,.inr ⟨n,e,hk _ h1⟩,h2⟩
def Slc(N:Nat)(h:AHeap)(sz:Nat)(x:AV)(ls:List (List AV)):Prop:=
 (∀l∈ls,l.length=sz)∧((ls=[]∧(x=.nsl∨x=.esl))∨∃b,ls≠[]∧b<N∧x=.sl b 0 ls.length sz∧RowLike h b ls.flatten)
def Plain(P:Program)(N:Nat)(h:AHeap):Nat→TypeId→List AV→Prop
 |0,_,_=>False
 |n+1,t,l=>match P.underlying t with
  |some .bool=>∃b,l=[.bool b]
  |some (.int k)=>∃z,l=[.int k z]∧(Lit.int k z).wf=true
  |some .string=>∃s:Bytes,l=[z5 s]∧s.length≤reachBytes
  |some (.struct fs)=>∃ls:List (List AV),l=ls.flatten∧ls.length=fs.size∧∀(i:Nat) f li,fs[i]? =some f→ls[i]? =some li→Plain P N h n f.type li
  |some (.array k e)=>∃ls:List (List AV),l=ls.flatten∧ls.length=k∧∀li∈ls,Plain P N h n e li
  |some (.slice e)=>∃(x:AV) (ls:List (List AV)),l=[x]∧Slc N h (P.cellsOf e) x ls∧ls.length*P.bytesOf e≤reachBytes∧∀li∈ls,Plain P N h n e li
  |_=>False
theorem Slc.keep{N N':Nat}{h h':AHeap}{sz:Nat}{x:AV}{ls:List (List AV)}(hs:Slc N h sz x ls)(hN:N≤N')(hk:∀b o,b<N→h.get b=some o→h'.get b=some o):Slc N' h' sz x ls:=by
 obtain⟨h0,h1⟩:=hs;refine⟨h0,?_⟩
 rcases h1 with h1|⟨b,h1,h2,h3,h4⟩
 ·exact .inl h1
 ·exact .inr ⟨b,h1,Nat.lt_of_lt_of_le h2 hN,h3,h4.same fun o ho=>hk _ _ h2 ho⟩
theorem Plain.keep{P:Program}{N N':Nat}{h h':AHeap}(hN:N≤N')(hk:∀b o,b<N→h.get b=some o→h'.get b=some o):∀(n:Nat) (t:TypeId) (l:List AV),Plain P N h n t l→Plain P N' h' n t l
 |0,_,_,hp=>hp
 |n+1,t,l,hp=>by
  simp only[Plain] at hp ⊢
  split at hp
  ·exact hp
  ·exact hp
  ·exact hp
  ·obtain ⟨ls, h1, h2, h3⟩ := hp
   exact⟨ls,h1,h2,fun i f li a b=>Plain.keep hN hk n _ _ (h3 i f li a b)⟩
  ·obtain ⟨ls, h1, h2, h3⟩ := hp
   exact⟨ls,h1,h2,fun li a=>Plain.keep hN hk n _ _ (h3 li a)⟩
  ·obtain ⟨x, ls, h1, h2, h3, h4⟩ := hp
   exact⟨x,ls,h1,h2.keep hN hk,h3,fun li a=>Plain.keep hN hk n _ _ (h4 li a)⟩
  ·exact hp
theorem list_of'{α:Type}{Q:Nat→α→Prop}:∀n,(∀i,i<n→∃x,Q i x)→∃l:List α,l.length=n∧∀i x,l[i]? =some x→Q i x
 |0,_=>⟨[],rfl,fun i x h=>by simp at h⟩
 |n+1,h=>by
  obtain⟨l,hl,hq⟩:=list_of' n (fun i hi=>h i (by omega));obtain⟨x,hx⟩:=h n (by omega);refine⟨l++[x],by simp[hl],fun i y hi=>?_⟩
  by_cases hin:i<n
  ·rw[List.getElem?_append_left (by omega)] at hi;exact hq i y hi
  ·have hlt := (List.getElem?_eq_some_iff.1 hi).1
   have:i=n:=by simp at hlt;omega
   subst this;rw[List.getElem?_append_right (by omega)] at hi
   simp[hl] at hi
   exact hi▸hx
theorem z2c2{P:Program}{cs:List Value}:∀(fl:List Field) (o:Nat),z328 P fl o=some cs.length→(fl.map fun f=>(f.type,(cs.drop f.offset).take (P.cellsOf f.type))).flatMap (·.2)=cs.drop o
 |[],o,h=>by
  simp only[z328,Option.some.injEq] at h;subst h
  simp
 |f::fl,o,h=>by
  unfold z328 at h
  split at h
  ·rename_i e
   have e:=Nat.eq_of_beq_eq_true e;rw[List.map_cons,List.flatMap_cons,z2c2 fl _ h,e, ←List.drop_drop];exact List.take_append_drop _ _
  ·cases h
theorem z31b{cs:List Value}{e:TypeId}{sz:Nat}:∀(k:Nat),((List.range k).map fun i=>(e,(cs.drop (i*sz)).take sz)).flatMap (·.2)=cs.take (k*sz)
 |0=>by simp
 |k+1=>by
  rw[List.range_succ,List.map_append,List.flatMap_append,z31b k];simp only[List.map_cons,List.map_nil,List.flatMap_cons,List.flatMap_nil,List.append_nil];rw[Nat.add_mul,Nat.one_mul,List.take_add]
theorem z32a{W:World}{g sz:Nat}:∀(L:List (List Value)) (o:Nat),(∀j cj,L[j]? =some cj→cj.length=sz∧∀(k:Nat) c,cj[k]? =some c→W.cell? ⟨g,o+j*sz+k,none⟩=some c)→∀i y,L.flatten[i]? =some y→W.cell? ⟨g,o+i,none⟩=some y
 |[],_,_,i,y,h=>by simp at h
 |c::L,o,hq,i,y,h=>by
  obtain⟨h1,h2⟩:=hq 0 c rfl;rw[List.flatten_cons] at h
  by_cases hi:i<c.length
  ·rw [List.getElem?_append_left hi] at h
   have:=h2 i y h;rw[Nat.zero_mul,Nat.add_zero] at this;exact this
  ·rw [List.getElem?_append_right (by omega)] at h
   have:=z32a L (o+sz) (fun j cj hj=>by
    obtain⟨a,b⟩:=hq (j+1) cj (by simpa using hj);refine⟨a,fun k c' hc=>?_⟩;have:=b k c' hc;rw[Nat.add_mul,Nat.one_mul] at this;rw[show o+sz+j*sz+k=o+(j*sz+sz)+k by omega];exact this) (i - c.length) y h
   rw[show o+i=o+sz+(i - c.length) by omega];exact this
section
variable {H:Type}{enc:TypeId×Value→H}{P:Program}{W:World}
theorem weightsAll_mem'{e:TypeId}{l:List (DataW H)}{d:DataW H}(hd:d∈l){n:Nat}(hn:n∈d.weights P e):n∈DataW.weightsAll P e l:=by
 induction l with
 |nil=>cases hd
 |cons x l ih=>
  show n∈x.weights P e++DataW.weightsAll P e l
  rcases List.mem_cons.1 hd with rfl|h
  ·exact List.mem_append_left _ hn
  ·exact List.mem_append_right _ (ih h)
def z495(enc:TypeId×Value→H)(P:Program)(W:World)(n:Nat)(t:TypeId)(cs:List Value):Prop:=
 z218 P n t=true∧∃fuel d p,DataW.trod enc P W 0 (fun _=>true) true fuel t cs=some (d,p)∧(∀x∈p,x.block<W.heap.size)∧∀k∈d.weights P t,k≤reachBytes
def Opened(P:Program)(W:World)(n:Nat)(t:TypeId)(cs:List Value):Prop:=
 ∀m h,Fits W m h W→z277 h→∃(m':Map) (h':AHeap) (l:List AV),Ext m m'∧Keeps h h'∧Fits W m' h' W∧z277 h'∧RelL m' l cs∧l.all AV.one=true∧l.length=P.cellsOf t∧Plain P h'.next h' n t l
theorem z21a{n:Nat}(ih:∀t cs,z495 enc P W n t cs→Opened P W n t cs):∀(ps:List (TypeId×List Value)),(∀q∈ps,z495 enc P W n q.1 q.2)→∀m h,Fits W m h W→z277 h→
  ∃(m':Map) (h':AHeap) (ls:List (List AV)),Ext m m'∧Keeps h h'∧Fits W m' h' W∧z277 h'∧RelL m' ls.flatten (ps.flatMap (·.2))∧ls.flatten.all AV.one=true∧ls.length=ps.length∧
   ∀(i:Nat) q li,ps[i]? =some q→ls[i]? =some li→Plain P h'.next h' n q.1 li∧li.length=P.cellsOf q.1
 |[],_,m,h,F,hro=>⟨m,h,[],Ext.refl m,Keeps.refl h,F,hro,.nil,rfl,rfl,fun i q li a=>by simp at a⟩
 |q::ps,ho,m,h,F,hro=>by
  obtain⟨m1,h1,l,x1,k1,F1,r1,a1,a2,a3,a4⟩:=ih q.1 q.2 (ho q (List.mem_cons_self ..)) m h F hro;obtain⟨m2,h2,ls,x2,k2,F2,r2,b1,b2,b3,b4⟩:=z21a ih ps (fun q' hq=>ho q' (List.mem_cons_of_mem _ hq)) m1 h1 F1 r1;refine⟨m2,h2,l::ls,x1.trans x2,k1.trans k2,F2,r2,?_,?_,by simp[b3],fun i q' li hi hl=>?_⟩
  ·rw [List.flatten_cons, List.flatMap_cons]
   exact(a1.mono x2.le).append b1
  ·rw[List.flatten_cons,List.all_append,a2,b2];rfl
  ·cases i with
   |zero=>
    simp at hi hl
    subst hi;subst hl;exact⟨a4.keep k2.1 (fun b o _ hb=>k2.2.2 b o hb),a3⟩
   |succ i=>exact b4 i q' li (by simpa using hi) (by simpa using hl)
theorem z470{h:AHeap}(hr:z277 h)(t:T AV):z277 (h.new (.ro t)):=by
 intro b o hb
 by_cases e:h.next=b
 ·subst e
  rw[z3c] at hb;cases hb;rfl
 ·rw [z1b _ e] at hb
  exact hr b o hb
theorem put_get(l:List AV)(i:Nat):(T.put .e 0 l:T AV).get i=l[i]?:=zd3 l i
theorem z2ba{m:Map}{h:AHeap}(F:Fits W m h W)(o:AObj):Keeps h (h.new o):=⟨Nat.le_succ _,rfl,fun b x hb=>by
 have:=F.lt_next hb;rw[z1b _ (by omega)];exact hb⟩
theorem z28c{sz:Nat}:∀(ls:List (List AV)),(∀l∈ls,l.length=sz)→ls.flatten.length=ls.length*sz
 |[],_=>by simp
 |l::ls,h=>by
  rw[List.flatten_cons,List.length_append,h l (List.mem_cons_self ..),z28c ls (fun x hx=>h x (List.mem_cons_of_mem _ hx)),List.length_cons,Nat.add_mul];omega
theorem z30e:∀(n:Nat) (t:TypeId) (cs:List Value),z495 enc P W n t cs→Opened P W n t cs
 |0,_,_,ho=>by cases ho.1
 |n+1,t,cs,⟨hp,fuel,d,p,htr,hpl,hwt⟩=>by
  intro m h F hro;have ih:=z30e n;simp only[z218] at hp
  split at hp
  ·rename_i hu
   have hc:=Nat.eq_of_beq_eq_true hp;obtain⟨b,rfl,_⟩:=DataW.trod_bool hu htr;exact⟨m,h,[.bool b],Ext.refl m,Keeps.refl h,F,hro,.cons (.bool b) .nil,rfl,by rw[hc];rfl,by simp only[Plain,hu];exact⟨b,rfl⟩⟩
  ·rename_i k hu
   have hc:=Nat.eq_of_beq_eq_true hp;obtain⟨z,rfl,_,hz⟩:=DataW.trod_int hu htr;exact⟨m,h,[.int k z],Ext.refl m,Keeps.refl h,F,hro,.cons (.int k z) .nil,rfl,by rw[hc];rfl,by simp only[Plain,hu];exact⟨z,rfl,hz⟩⟩
  ·rename_i hu
   have hc:=Nat.eq_of_beq_eq_true hp;obtain⟨s,rfl,hx,_⟩:=DataW.trod_string hu htr;simp only[Prod.mk.injEq] at hx;obtain⟨rfl,rfl⟩:=hx;exact⟨m,h,[z5 s.data.toList],Ext.refl m,Keeps.refl h,F,hro,.cons (rel_str m s) .nil,rfl,by rw[hc];rfl,by simp only[Plain,hu];exact⟨s.data.toList,rfl,hwt _ (by simp[DataW.weights])⟩⟩
  ·rename_i fs hu
   rw[Bool.and_eq_true] at hp;obtain⟨hp1,hp2⟩:=hp;obtain⟨xs,fn,_,hx,hlen,hxl,hf⟩:=DataW.trod_struct hu htr;simp only[Prod.mk.injEq] at hx;obtain⟨rfl,rfl⟩:=hx
   have hcz:z328 P fs.toList 0=some (P.cellsOf t):=by
    split at hp1
    ·rename_i z hz
     rw[hz,Nat.eq_of_beq_eq_true hp1]
    ·cases hp1
   have hps:∀q∈fs.toList.map (fun f=>(f.type,(cs.drop f.offset).take (P.cellsOf f.type))),z495 enc P W n q.1 q.2:=by
    intro q hq;obtain⟨f,hfm,rfl⟩:=List.mem_map.1 hq;obtain⟨i,hi,hif⟩:=List.getElem_of_mem hfm;have hif2:fs[i]? =some f:=by rw[←hif];simp at hi ⊢
    have hfi:=hf i f hif2;have hix:i<xs.length:=by rw[hxl];simpa using hi
    rw[List.getElem?_eq_getElem hix] at hfi;refine⟨List.all_eq_true.1 hp2 f hfm,fn,xs[i].1,xs[i].2,hfi,fun x hx=>hpl x (List.mem_flatMap.2 ⟨xs[i],List.getElem_mem _,hx⟩),fun k hk=>hwt k ?_⟩;simp only[DataW.weights,hu];exact DataW.weights_mem_each (j:=i) (t:=f.type) (d:=xs[i].1) (by simp[hif2]) (by simp[List.getElem?_eq_getElem hix]) k hk
   obtain⟨m',h',ls,x1,k1,F1,r1,a1,a2,a3,a4⟩:=z21a ih _ hps m h F hro;rw[z2c2 _ _ (by rw[hlen];exact hcz),List.drop_zero] at a1;have a3':ls.length=fs.size:=by simpa using a3
   refine⟨m',h',ls.flatten,x1,k1,F1,r1,a1,a2,by rw[a1.length,hlen],?_⟩;simp only[Plain,hu];exact⟨ls,rfl,a3',fun i f li hi hl=>(a4 i (f.type,(cs.drop f.offset).take (P.cellsOf f.type)) li (by rw[List.getElem?_map];simp[hi]) hl).1⟩
  ·rename_i k e hu
   rw[Bool.and_eq_true] at hp;obtain⟨hp1,hp2⟩:=hp;have hsz:=Nat.eq_of_beq_eq_true hp1;obtain⟨xs,fn,_,hx,hlen,hxl,hf⟩:=DataW.trod_array hu htr;simp only[Prod.mk.injEq] at hx;obtain⟨rfl,rfl⟩:=hx
   have hps:∀q∈(List.range k).map (fun i=>(e,(cs.drop (i*P.cellsOf e)).take (P.cellsOf e))),z495 enc P W n q.1 q.2:=by
    intro q hq;obtain⟨i,hi,rfl⟩:=List.mem_map.1 hq;have hik:i<k:=List.mem_range.1 hi;have hfi:=hf i hik;have hix:i<xs.length:=by omega
    rw[List.getElem?_eq_getElem hix] at hfi;refine⟨hp2,fn,xs[i].1,xs[i].2,hfi,fun x hx=>hpl x (List.mem_flatMap.2 ⟨xs[i],List.getElem_mem _,hx⟩),fun j hj=>hwt j ?_⟩;simp only[DataW.weights,hu];exact weightsAll_mem' (List.mem_map.2 ⟨xs[i],List.getElem_mem _,rfl⟩) hj
   obtain⟨m',h',ls,x1,k1,F1,r1,a1,a2,a3,a4⟩:=z21a ih _ hps m h F hro;rw[z31b,hsz, ←hlen,List.take_length] at a1;have a3':ls.length=k:=by simpa using a3
   refine⟨m',h',ls.flatten,x1,k1,F1,r1,a1,a2,by rw[a1.length,hlen],?_⟩;simp only[Plain,hu];refine⟨ls,rfl,a3',fun li hl=>?_⟩;obtain⟨i,hi,rfl⟩:=List.getElem_of_mem hl;exact(a4 i (e,(cs.drop (i*P.cellsOf e)).take (P.cellsOf e)) ls[i] (by simp[List.getElem?_range (show i<k by omega)]) (List.getElem?_eq_getElem hi)).1
  ·rename_i e hu
   simp only[Bool.and_eq_true] at hp;obtain⟨⟨hp0,hp1⟩,hp2⟩:=hp;have hc:=Nat.eq_of_beq_eq_true hp0;have hpos:0<P.cellsOf e:=Nat.le_of_ble_eq_true hp1
   rcases DataW.trod_slice hu htr with⟨rfl,_⟩|⟨a,len,cap,elems,rest,fn,_,rfl,hx,_,hlc,hcm,hel,hee,_,_⟩
   ·exact⟨m,h,[.nsl],Ext.refl m,Keeps.refl h,F,hro,.cons .nsl .nil,rfl,by rw[hc];rfl,by
     simp only[Plain,hu];exact⟨.nsl,[],rfl,⟨by simp,.inl ⟨rfl,.inl rfl⟩⟩,by simp,by simp⟩⟩
   simp only[Prod.mk.injEq] at hx;obtain⟨rfl,rfl⟩:=hx
   by_cases h0:len=0
   ·subst h0
    exact⟨m,h,[.esl],Ext.refl m,Keeps.refl h,F,hro,.cons (.esl a cap) .nil,rfl,by rw[hc];rfl,by
     simp only[Plain,hu];exact⟨.esl,[],rfl,⟨by simp,.inl ⟨rfl,.inr rfl⟩⟩,by simp,by simp⟩⟩
   obtain⟨L,hL,hLq⟩:=list_of' (α:=List Value) (Q:=fun i c=>i<len∧W.cells? 0 (a.add (i*P.cellsOf e)) (P.cellsOf e)=some c∧DataW.trod enc P W 0 (fun _=>true) true fn e c=elems[i]?) len (fun i hi=>by
    have h1:=hee i hi;have hix:i<elems.length:=by omega
    rw[List.getElem?_eq_getElem hix] at h1;obtain⟨c,hc1,hc2⟩:=Option.bind_eq_some_iff.1 h1;exact⟨c,hi,hc1,by rw[List.getElem?_eq_getElem hix];exact hc2⟩)
   have hps:∀q∈L.map (fun c=>(e,c)),z495 enc P W n q.1 q.2:=by
    intro q hq;obtain⟨c,hcm2,rfl⟩:=List.mem_map.1 hq;obtain⟨i,hi,rfl⟩:=List.getElem_of_mem hcm2;obtain⟨hil,_,h3⟩:=hLq i L[i] (List.getElem?_eq_getElem hi);have hix:i<elems.length:=by omega
    rw[List.getElem?_eq_getElem hix] at h3;refine⟨hp2,fn,elems[i].1,elems[i].2,h3,fun x hx=>hpl x (List.mem_append_right _ (List.mem_flatMap.2 ⟨elems[i],List.mem_append_left _ (List.getElem_mem _),hx⟩)),fun k hk=>hwt k ?_⟩;simp only[DataW.weights,hu];exact List.mem_cons_of_mem _ (List.mem_append_left _ (weightsAll_mem' (List.mem_map.2 ⟨elems[i],List.getElem_mem _,rfl⟩) hk))
   obtain⟨m1,h1,ls,x1,k1,F1,r1,a1,a2,a3,a4⟩:=z21a ih _ hps m h F hro;have a3':ls.length=len:=by simpa [hL] using a3
   have hflat:(L.map (fun c=>(e,c))).flatMap (·.2)=L.flatten:=by
    rw[List.flatMap_map]
    simp[List.flatMap_def]
   rw[hflat] at a1;obtain⟨g,off,spot⟩:=a
   have hspot:spot=none:=by
    have hL0:L[0]? =some L[0]:=List.getElem?_eq_getElem (by omega);obtain⟨_,h2,_⟩:=hLq 0 L[0] hL0;obtain⟨_,hl2,hcell⟩:=World.cells?_some h2;have:=hcell 0 hpos;rw[List.getElem?_eq_getElem (by omega)] at this
    simpa [Addr.add] using World.cell?_spot this
   subst hspot
   have hcellL:∀(j:Nat) cj,L[j]? =some cj→cj.length=P.cellsOf e∧∀(k:Nat) c,cj[k]? =some c→W.cell? ⟨g,off+j*P.cellsOf e+k,none⟩=some c:=by
    intro j cj hj;obtain⟨_,h2,_⟩:=hLq j cj hj;obtain⟨_,hl2,hcell⟩:=World.cells?_some h2;refine⟨hl2,fun k c hk=>?_⟩;have hk2:k<P.cellsOf e:=by have:=(List.getElem?_eq_some_iff.1 hk).1;omega
    have:=hcell k hk2;rw[add_plain,add_plain,hk] at this;exact this
   have hg:g<W.heap.size:=hpl (.cell g off) (List.mem_append_left _ (MemPlace.mem_row.2 ⟨0,Nat.mul_pos (by omega) hpos,by simp⟩))
   have hli:∀l∈ls,l.length=P.cellsOf e:=by
    intro l hl;obtain⟨i,hi,rfl⟩:=List.getElem_of_mem hl;exact(a4 i (e,L[i]'(by omega)) ls[i] (by simp[List.getElem?_eq_getElem (show i<L.length by omega)]) (List.getElem?_eq_getElem hi)).2
   have hne:ls≠[]:=by rintro rfl;simp at a3';omega
   have hroat:RoAt (m1++[some (g,off,off+cap*P.cellsOf e)]) W g off (T.put .e 0 ls.flatten):=by
    refine⟨hg,fun i x hx=>?_⟩;rw[put_get] at hx;obtain⟨y,hy,hry⟩:=a1.get i x hx;exact⟨y,z32a L off hcellL i y hy,hry.mono (ye _ _),hry.one (List.all_eq_true.1 a2 x (List.mem_of_getElem? hx))⟩
   have F2:=Fits.new F1 (.ro (T.put .e 0 ls.flatten)) (g:=g) (s:=off) (z:=off+cap*P.cellsOf e) (fun b o' s' z' hb ha=>by rw[r1 b o' hb] at ha;cases ha)
    (fun n t e he=>by cases he) (fun es he=>by cases he) (fun n t e he=>by cases he) (fun t he=>by cases he;exact hroat) (hpin:=fun k o' hk ha=>by cases ha)
   refine⟨_,_,[.sl h1.next 0 len (P.cellsOf e)],x1.trans (Ext.append m1 _),k1.trans (z2ba F1 _),F2,z470 r1 _,.cons ?_ .nil,rfl,by rw[hc];rfl,?_⟩
   ·have hmm : (m1 ++ [some (g, off, off + cap * P.cellsOf e)])[h1.next]? = some (some (g, off, off + cap * P.cellsOf e)) := by
     rw[List.getElem?_append_right (by rw[F1.len];exact Nat.le_refl _),F1.len,Nat.sub_self];rfl
    have:=Rel.sl (m:=m1++[some (g,off,off+cap*P.cellsOf e)]) (b:=h1.next) (o:=0) (n:=len) (sz:=P.cellsOf e) (cap:=cap) hmm hlc (by omega);rw[Nat.add_zero] at this;exact this
   ·simp only [Plain, hu]
    refine⟨_,ls,rfl,⟨hli,.inr ⟨h1.next,hne,Nat.lt_succ_self _,by rw[a3'],⟨_,.inl (z3c _),fun i _=>put_get _ i⟩⟩⟩,?_,fun li hl=>?_⟩
    ·have := hwt _ (by simp only [DataW.weights, hu]; exact List.mem_cons_self ..)
     refine Nat.le_trans (Nat.mul_le_mul_right _ ?_) this;rw[List.length_map,a3',hel];omega
    ·obtain ⟨i, hi, rfl⟩ := List.getElem_of_mem hl
     have hpi:=(a4 i (e,L[i]'(by omega)) ls[i] (by simp[List.getElem?_eq_getElem (show i<L.length by omega)]) (List.getElem?_eq_getElem hi)).1;exact hpi.keep (z2ba F1 _).1 (fun b o _ hb=>(z2ba F1 _).2.2 b o hb)
  ·cases hp
end
end
noncomputable section
open Go.RowKit Go.WideShapes Go.ChangeShapes
def ArgP(P:Program)(N:Nat)(h:AHeap)(n:Nat)(t:TypeId)(a:AV):Prop:=match z1ab P t with
 |some true=>∃l,a=.agg l∧Plain P N h n t l
 |_=>Plain P N h n t [a]
def z422(P:Program)(N:Nat)(h:AHeap)(n:Nat):List TypeId→List AV→Prop
 |[],[]=>True
 |t::ts,a::as=>ArgP P N h n t a∧z422 P N h n ts as
 |_,_=>False
theorem ArgP.keep{P:Program}{N N':Nat}{h h':AHeap}{n:Nat}{t:TypeId}{a:AV}(hp:ArgP P N h n t a)(hN:N≤N')(hk:∀b o,b<N→h.get b=some o→h'.get b=some o):ArgP P N' h' n t a:=by
 unfold ArgP at hp ⊢
 split at hp
 ·obtain ⟨l, h1, h2⟩ := hp
  exact⟨l,h1,h2.keep hN hk⟩
 ·exact hp.keep hN hk
theorem z471{m:Map}{l:List AV}{v:Value}(h:RelL m l [v]):∃x,l=[x]∧Rel m x v:=by
 cases h with|cons a b=>
 cases b
 exact⟨_,rfl,a⟩
section
variable {H:Type}{enc:TypeId×Value→H}{P:Program}{W:World}
theorem open_arg{n:Nat}{t:TypeId}{v:Value}{m:Map}{N:Nat}{h:AHeap}{l:List AV}(ht:z218 P n t=true)(hv:∃base,Value.okWide P W .any base t v)(hr:RelL m l v.cells.toList)(hp:Plain P N h n t l):∃a,Rel m a v∧ArgP P N h n t a:=by
 obtain⟨base,hv⟩:=hv
 have hsingle:v.cells= #[v]→z1ab P t=some false→∃a,Rel m a v∧ArgP P N h n t a:=by
  intro h1 h2;rw[h1] at hr;obtain⟨x,rfl,hx⟩:=z471 hr;refine⟨x,hx,?_⟩;unfold ArgP;rw[h2];exact hp
 have hagg:∀cs:Array Value,v=.agg cs→z1ab P t=some true→∃a,Rel m a v∧ArgP P N h n t a:=by
  intro cs h1 h2;subst h1;refine⟨.agg l,.agg hr,?_⟩;unfold ArgP;rw[h2];exact⟨l,rfl,hp⟩
 cases n with
 |zero=>cases ht
 |succ n=>
  simp only[z218] at ht
  split at ht
  ·rename_i hu
   obtain⟨b,rfl⟩:=okWide_bool hu hv;exact hsingle rfl (by simp[z1ab,hu,z1a7])
  ·rename_i hu
   obtain⟨z,rfl⟩:=okWide_int hu hv;exact hsingle rfl (by simp[z1ab,hu,z1a7])
  ·rename_i hu
   obtain⟨z,rfl⟩:=okWide_string hu hv;exact hsingle rfl (by simp[z1ab,hu,z1a7])
  ·rename_i hu
   obtain⟨cs,h1,_⟩:=okWide_struct hu hv;exact hagg cs h1 (by simp[z1ab,hu,z1a7])
  ·rename_i hu
   unfold Value.okWide at hv;rw[hu] at hv;obtain⟨cs,h1,_⟩:=hv;exact hagg cs h1 (by simp[z1ab,hu,z1a7])
  ·rename_i hu
   obtain⟨a,len,cap,rfl⟩:=okWide_slice hu hv;exact hsingle rfl (by simp[z1ab,hu,z1a7])
  ·cases ht
theorem z3b0{n:Nat}:∀(ts:List TypeId) (vs:List Value) (ds:List (DataW H)) (p:List MemPlace),DataW.TrodAll enc P W 0 (fun _=>true) true ts vs ds p→(∀x∈p,x.block<W.heap.size)→(∀k∈DataW.weightsEach P ts ds,k≤reachBytes)→
  ts.all (z218 P n)=true→(∀(i:Nat) t v,ts[i]? =some t→vs[i]? =some v→∃base,Value.okWide P W .any base t v)→∀m h,Fits W m h W→z277 h→
  ∃(m':Map) (h':AHeap) (as:List AV),Ext m m'∧Keeps h h'∧Fits W m' h' W∧z277 h'∧RelL m' as vs∧z422 P h'.next h' n ts as
 |[],vs,ds,p,ht,_,_,_,_,m,h,F,hro=>by
  cases vs with
  |nil=>exact⟨m,h,[],Ext.refl m,Keeps.refl h,F,hro,.nil,trivial⟩
  |cons v vs=>cases ht
 |t::ts,vs,ds,p,ht,hpl,hwt,hall,hval,m,h,F,hro=>by
  obtain⟨v,vs',d,ds',q,q',rfl,rfl,rfl,h0,hr⟩:=trodAll_cons ht;rw[List.all_cons,Bool.and_eq_true] at hall;obtain⟨fuel,h0⟩:=h0;have hw1:∀k∈d.weights P t,k≤reachBytes:=fun k hk=>hwt k (by show k∈d.weights P t++DataW.weightsEach P ts ds';exact List.mem_append_left _ hk);have hw2:∀k∈DataW.weightsEach P ts ds',k≤reachBytes:=fun k hk=>hwt k (by show k∈d.weights P t++DataW.weightsEach P ts ds';exact List.mem_append_right _ hk);obtain⟨m1,h1,l,x1,k1,F1,r1,a1,_,_,a4⟩:=z30e (enc:=enc) n t v.cells.toList ⟨hall.1,fuel,d,q,h0,fun x hx=>hpl x (List.mem_append_left _ hx),hw1⟩ m h F hro;obtain⟨a,hra,hpa⟩:=open_arg hall.1 (hval 0 t v rfl rfl) a1 a4;obtain⟨m2,h2,as,x2,k2,F2,r2,b1,b2⟩:=z3b0 ts vs' ds' q' hr (fun x hx=>hpl x (List.mem_append_right _ hx)) hw2 hall.2 (fun i t' v' hi hv=>hval (i+1) t' v' (by simpa using hi) (by simpa using hv)) m1 h1 F1 r1;exact⟨m2,h2,a::as,x1.trans x2,k1.trans k2,F2,r2,.cons (hra.mono x2.le) b1,hpa.keep k2.1 (fun b o _ hb=>k2.2.2 b o hb),b2⟩
theorem open_all{n:Nat}(X:List Nat){ts:List TypeId}{vs:List Value}{ds:List (DataW H)}{p:List MemPlace}(ht:DataW.TrodAll enc P W 0 (fun _=>true) true ts vs ds p)(hpl:∀x∈p,x.block<W.heap.size)(hwt:(DataW.weightsEach P ts ds).all (·≤reachBytes)=true)(hall:ts.all (z218 P n)=true)(hval:∀(i:Nat) t v,ts[i]? =some t→vs[i]? =some v→∃base,Value.okWide P W .any base t v):
  ∃(m:Map) (h:AHeap) (as:List AV),Fits W m h W∧h.ex=X∧RelL m as vs∧z422 P h.next h n ts as:=by
 obtain⟨m,h,as,_,k,F,_,a,b⟩:=z3b0 (n:=n) ts vs ds p ht hpl (fun k hk=>by simpa using List.all_eq_true.1 hwt k hk) hall hval [] ⟨0,X,.e⟩ (z481 W X) (fun b o hb=>by
  have:(T.e:T AObj).get b=some o:=hb;rw[y21] at this;cases this)
 exact⟨m,h,as,F,k.2.1,a,b⟩
theorem says_in{f:FuncId}{args:List AV}{args':Array Value}{m:Map}{h h':AHeap}(hs:Says P f args h (.ret (.bool true)) h')(F:Fits W m h W)(hr:RelL m args args'.toList):
  Calls P f args' W fun e W'=>e=.returned (.bool true)∧Below W.heap.size W W':=by
 refine Calls.mono (hs W m W args'.toList hr F) ?_
 rintro e W' ⟨m',_,F,v',rfl,hv⟩
 cases hv;exact⟨rfl,F.below⟩
end
theorem map_of{α β:Type}{f:α→β}{Q:α→Prop}:∀(ls:List β),(∀l∈ls,∃x,l=f x∧Q x)→∃xs:List α,ls=xs.map f∧∀x∈xs,Q x
 |[],_=>⟨[],rfl,by simp⟩
 |l::ls,h=>by
  obtain⟨x,h1,h2⟩:=h l (List.mem_cons_self ..);obtain⟨xs,h3,h4⟩:=map_of ls (fun y hy=>h y (List.mem_cons_of_mem _ hy))
  exact⟨x::xs,by rw[List.map_cons, ←h1, ←h3],fun y hy=>by
   rcases List.mem_cons.1 hy with rfl|hy
   ·exact h2
   ·exact h4 y hy⟩
theorem z363{α β:Type}(f:α→β):∀(vs:List α),(vs.map fun v=>[f v]).flatten=vs.map f
 |[]=>rfl
 |v::vs=>by rw[List.map_cons,List.flatten_cons,z363 f vs];rfl
theorem z2c1{sz:Nat}:∀(ls:List (List AV)) (i:Nat) (hi:i<ls.length),(∀l∈ls,l.length=sz)→(ls.flatten.drop (i*sz)).take sz=ls[i]
 |[],i,hi,_=>by simp at hi
 |l::ls,0,_,h=>by
  have:=h l (List.mem_cons_self ..);rw[List.flatten_cons,Nat.zero_mul,List.drop_zero,List.take_append_of_le_length (by omega), ←this,List.take_length];rfl
 |l::ls,i+1,hi,h=>by
  have:=h l (List.mem_cons_self ..);rw[List.flatten_cons,Nat.add_mul,Nat.one_mul,Nat.add_comm, ←List.drop_drop,List.drop_append_of_le_length (by omega), ←this,List.drop_length,List.nil_append,this];exact z2c1 ls i (by simpa using hi) (fun x hx=>h x (List.mem_cons_of_mem _ hx))
section
variable {N:Nat}{h:AHeap}{sz:Nat}{x:AV}{ls:List (List AV)}
theorem Slc.len(hs:Slc N h sz x ls):z12d x=some (ls.length:Int):=by
 rcases hs.2 with⟨rfl,rfl|rfl⟩|⟨b,_,_,rfl,_⟩<;>rfl
theorem Slc.at(hs:Slc N h sz x ls){i:Nat}(hi:i<ls.length):∃b,b<N∧z150 sz x (i:Int)=some (.ptr b (i*sz))∧RowLike h b ls.flatten:=by
 rcases hs.2 with⟨rfl,_⟩|⟨b,_,hb,rfl,hg⟩
 ·simp at hi
 ·refine ⟨b, hb, ?_, hg⟩
  rw[z2be hi,Nat.zero_add]
theorem z38f{t:T AV}{l:List AV}:∀(n o:Nat),(∀i,o≤i→i<o+n→t.get i=l[i]?)→o+n≤l.length→t.take o n=some ((l.drop o).take n)
 |0,o,_,_=>by simp[T.take]
 |n+1,o,hq,ho=>by
  have h1:t.get o=some (l[o]'(by omega)):=by
   rw[hq o (by omega) (by omega)];exact List.getElem?_eq_getElem (by omega)
  simp only[T.take,h1,z38f n (o+1) (fun i a b=>hq i (by omega) (by omega)) (by omega)];rw[List.drop_eq_getElem_cons (by omega:o<l.length),List.take_succ_cons]
theorem RowLike.part{b o n:Nat}{l:List AV}(k:RowLike h b l)(ho:o+n≤l.length):z44 h b o n=some ((l.drop o).take n):=by
 obtain⟨t,h1,h2⟩:=k;unfold z44
 rcases h1 with h1|⟨m,e,h1⟩<;>rw[h1]<;>exact z38f n o (fun i _ hi=>h2 i (by omega)) ho
theorem RowLike.cell{b o:Nat}{l:List AV}(k:RowLike h b l)(ho:o<l.length):zc h (.ptr b o)=some l[o]:=by
 obtain⟨t,h1,h2⟩:=k;show z9e h b o=_;unfold z9e
 rcases h1 with h1|⟨m,e,h1⟩<;>rw[h1]<;>exact(h2 o ho).trans (List.getElem?_eq_getElem ho)
theorem Slc.row(hs:Slc N h sz x ls){i:Nat}(hi:i<ls.length):∃b,b<N∧z150 sz x (i:Int)=some (.ptr b (i*sz))∧z2c h sz (.ptr b (i*sz))=some ls[i]:=by
 obtain⟨b,h0,h1,h2⟩:=hs.at hi;refine⟨b,h0,h1,?_⟩;have hl:=z28c ls hs.1
 have h3:i*sz+sz≤ls.flatten.length:=by
  rw[hl];have:(i+1)*sz≤ls.length*sz:=Nat.mul_le_mul_right _ hi;rw[Nat.add_mul,Nat.one_mul] at this;exact this
 show z44 h b (i*sz) sz=_;rw[h2.part h3,z2c1 ls i hi hs.1]
theorem Slc.cell{α:Type}{f:α→AV}{vs:List α}(hs:Slc N h 1 x (vs.map fun v=>[f v])){i:Nat}(hi:i<vs.length):∃b,b<N∧z150 1 x (i:Int)=some (.ptr b i)∧zc h (.ptr b i)=some (f vs[i]):=by
 obtain⟨b,h0,h1,h2⟩:=hs.at (i:=i) (by simpa using hi);rw[Nat.mul_one] at h1;rw[z363] at h2;refine⟨b,h0,h1,?_⟩;rw[h2.cell (by simpa using hi),List.getElem_map]
end
end
noncomputable section
open Go.RowKit
section
variable {P:Program}{N:Nat}{h:AHeap}{n:Nat}{t e:TypeId}{a:AV}{l:List AV}{k:IntKind}
theorem Plain.int(hu:P.underlying t=some (.int k))(hp:Plain P N h (n+1) t l):∃z,l=[.int k z]∧(Lit.int k z).wf=true:=by
 simp only[Plain,hu] at hp;exact hp
theorem Plain.bool(hu:P.underlying t=some .bool)(hp:Plain P N h (n+1) t l):∃b,l=[.bool b]:=by
 simp only[Plain,hu] at hp;exact hp
theorem Plain.str(hu:P.underlying t=some .string)(hp:Plain P N h (n+1) t l):∃s:Bytes,l=[z5 s]∧s.length≤reachBytes:=by
 simp only[Plain,hu] at hp;exact hp
theorem Plain.slice(hu:P.underlying t=some (.slice e))(hp:Plain P N h (n+1) t l):∃(x:AV) (ls:List (List AV)),l=[x]∧Slc N h (P.cellsOf e) x ls∧ls.length*P.bytesOf e≤reachBytes∧∀li∈ls,Plain P N h n e li:=by
 simp only[Plain,hu] at hp;exact hp
theorem Plain.struct{fs:Array Field}(hu:P.underlying t=some (.struct fs))(hp:Plain P N h (n+1) t l):∃ls:List (List AV),l=ls.flatten∧ls.length=fs.size∧∀(i:Nat) f li,fs[i]? =some f→ls[i]? =some li→Plain P N h n f.type li:=by
 simp only[Plain,hu] at hp;exact hp
theorem Plain.structEach{fs:Array Field}(hu:P.underlying t=some (.struct fs))(hp:Plain P N h (n+1) t l):∃ls:List (List AV),l=ls.flatten∧ls.length=fs.toList.length∧∀(i:Nat) f li,fs.toList[i]? =some f→ls[i]? =some li→Plain P N h n f.type li:=by
 obtain⟨ls,h0,h1,h2⟩:=hp.struct hu;exact⟨ls,h0,by simpa using h1,fun i f li a b=>h2 i f li (by simpa using a) b⟩
theorem ints_of(hu:P.underlying e=some (.int k)){ls:List (List AV)}(hp:∀li∈ls,Plain P N h (n+1) e li):∃zs:List Int,ls=zs.map (fun z=>[.int k z])∧∀z∈zs,(Lit.int k z).wf=true:=
 map_of ls fun l hl=>(hp l hl).int hu
theorem ArgP.plain(ha:z1ab P t=some false)(hp:ArgP P N h n t a):Plain P N h n t [a]:=by
 unfold ArgP at hp;rw[ha] at hp;exact hp
theorem ArgP.int(hu:P.underlying t=some (.int k))(hp:ArgP P N h (n+1) t a):∃z,a=.int k z∧(Lit.int k z).wf=true:=by
 obtain⟨z,h1,h2⟩:=(hp.plain (by simp[z1ab,hu,z1a7])).int hu;simp only[List.cons.injEq,and_true] at h1;exact⟨z,h1,h2⟩
theorem ArgP.bool(hu:P.underlying t=some .bool)(hp:ArgP P N h (n+1) t a):∃b,a=.bool b:=by
 obtain⟨z,h1⟩:=(hp.plain (by simp[z1ab,hu,z1a7])).bool hu;simp only[List.cons.injEq,and_true] at h1;exact⟨z,h1⟩
theorem ArgP.slice(hu:P.underlying t=some (.slice e))(hp:ArgP P N h (n+1) t a):∃ls:List (List AV),Slc N h (P.cellsOf e) a ls∧ls.length*P.bytesOf e≤reachBytes∧∀li∈ls,Plain P N h n e li:=by
 obtain⟨x,ls,h1,h2⟩:=(hp.plain (by simp[z1ab,hu,z1a7])).slice hu;simp only[List.cons.injEq,and_true] at h1;subst h1;exact⟨ls,h2⟩
theorem args0{as:List AV}(hp:z422 P N h n [] as):as=[]:=by
 cases as with
 |nil=>rfl
 |cons=>cases hp
theorem args_cons{ts:List TypeId}{as:List AV}(hp:z422 P N h n (t::ts) as):∃a as',as=a::as'∧ArgP P N h n t a∧z422 P N h n ts as':=by
 cases as with
 |nil=>cases hp
 |cons a as=>exact⟨a,as,rfl,hp.1,hp.2⟩
theorem wf_i64{z:Int}(hz:(Lit.int .i64 z).wf=true): -9223372036854775808≤z∧z<9223372036854775808:=by
 have:=bounds_i64 hz;omega
end
mutual
theorem y2e:∀x:AV,AV.same x x=true
 | .bool b=>by simp[AV.same]
 | .int k n=>by simp[AV.same]
 | .str n v=>by simp[AV.same]
 | .ptr b o=>by simp[AV.same]
 | .nilp=>by simp[AV.same]
 | .sl b o n sz=>by simp[AV.same]
 | .nsl=>by simp[AV.same]
 | .esl=>by simp[AV.same]
 | .mp b=>by simp[AV.same]
 | .nmp=>by simp[AV.same]
 | .fn f a b=>by simp[AV.same,y1b a,y1b b]
 | .nfn=>by simp[AV.same]
 | .ifc t v=>by simp[AV.same,y2e v]
 | .nifc=>by simp[AV.same]
 | .agg l=>by simp[AV.same,y1b l]
 | .tup l=>by simp[AV.same,y1b l]
 | .yld b=>by simp[AV.same]
 | .mrk b=>by simp[AV.same]
 | .gptr g o=>by simp[AV.same]
theorem y1b:∀l:List AV,y1c l l=true
 |[]=>by simp[y1c]
 |x::l=>by simp[y1c,y2e x,y1b l]
end
theorem z301(x:AV):z24a (some x) (some x)=true:=by simp[z24a,y2e]
theorem ze4{P:Program}{h:AHeap}{ty:TypeId}{x v:AV}(ha:z1ab P ty=some false)(e:zc h x=some v):z86 P h ty x v=true:=zbd ha e (z301 v)
theorem reLoad_r{P:Program}{h:AHeap}{ty:TypeId}{n:Nat}{x:AV}{l:List AV}(ha:z1ab P ty=some true)(hn:P.cellsOf ty=n)(e:z2c h n x=some l):z86 P h ty x (.agg l)=true:=by
 unfold z86;rw[z64 ha hn e];exact z301 _
theorem z41c{h:AHeap}{e:TypeId}{l:List AV}(hl:l.all AV.one=true):zd9 h e (some (.agg l))=some (.val (z13 h),newH h e l):=by
 show z30d h e l=_;unfold z30d;rw[if_pos hl];rfl
abbrev I64(z:Int):Prop:= -9223372036854775808≤z∧z<9223372036854775808
end
noncomputable section
open Go.RowKit
def RowH(h:AHeap)(b:Nat)(e:TypeId)(l:List AV):Prop:=∃t,h.get b=some (.row l.length t e)∧∀i,i<l.length→t.get i=l[i]?
def Tch(S:List Nat)(h h':AHeap):Prop:=h.next≤h'.next∧h'.ex=h.ex∧∀b,b<h.next→b ∉ S→h'.get b=h.get b
section
variable {S S':List Nat}{a c h h':AHeap}{b:Nat}{e:TypeId}{l vs:List AV}{v:AV}
theorem Tch.refl(S:List Nat)(h:AHeap):Tch S h h:=⟨Nat.le_refl _,rfl,fun _ _ _=>rfl⟩
theorem Tch.trans(k:Tch S a h)(j:Tch S h c):Tch S a c:=⟨Nat.le_trans k.1 j.1,j.2.1.trans k.2.1,fun b hb hs=>(j.2.2 b (Nat.lt_of_lt_of_le hb k.1) hs).trans (k.2.2 b hb hs)⟩
theorem Tch.trans'(k:Tch S a h)(j:Tch S' h c)(hs:∀b∈S',b∈S∨a.next≤b):Tch S a c:=⟨Nat.le_trans k.1 j.1,j.2.1.trans k.2.1,fun b hb hS=>(j.2.2 b (Nat.lt_of_lt_of_le hb k.1) (fun h=>by
 rcases hs b h with h|h
 ·exact hS h
 ·omega)).trans (k.2.2 b hb hS)⟩
theorem Tch.mono(k:Tch S a h)(hs:∀b∈S,b∈S'∨a.next≤b):Tch S' a h:=⟨k.1,k.2.1,fun b hb hS=>k.2.2 b hb (fun h=>by
 rcases hs b h with h|h
 ·exact hS h
 ·omega)⟩
theorem Tch.new(S:List Nat)(h:AHeap)(o:AObj):Tch S h (h.new o):=⟨Nat.le_succ _,rfl,fun b hb _=>z1b o (by omega)⟩
theorem Tch.newH(S:List Nat)(h:AHeap)(e:TypeId)(l:List AV):Tch S h (newH h e l):=Tch.new S h _
theorem Tch.put(hb:b∈S∨h.next≤b)(o:AObj):Tch S h (h.put b o):=⟨Nat.le_refl _,rfl,fun i hi hS=>z16 o (fun e=>by
 subst e
 rcases hb with h|h
 ·exact hS h
 ·omega)⟩
theorem Tch.above(k:Tch [] a h):Above a h:=⟨k.1,k.2.1,fun b hb=>k.2.2 b hb (by simp)⟩
theorem RowH.same(k:RowH h b e l)(hs:h'.get b=h.get b):RowH h' b e l:=by
 obtain⟨t,h1,h2⟩:=k;exact⟨t,hs.trans h1,h2⟩
theorem RowH.tch(k:RowH h b e l)(hs:Tch S h h')(hb:b<h.next)(hn:b ∉ S):RowH h' b e l:=k.same (hs.2.2 b hb hn)
theorem RowH.new(h:AHeap)(e:TypeId)(l:List AV):RowH (newH h e l) h.next e l:=⟨_,z35c h e l,fun i _=>zd3 l i⟩
theorem ex_newH(h:AHeap)(e:TypeId)(l:List AV):(newH h e l).ex=h.ex:=rfl
theorem RowH.cell(k:RowH h b e l){o:Nat}(ho:o<l.length):zc h (.ptr b o)=some (l[o]'ho):=by
 obtain⟨t,h1,h2⟩:=k;simp only[zc,z9e,h1];rw[h2 o ho,List.getElem?_eq_getElem ho]
theorem RowH.cell'(k:RowH h b e l){o:Nat}(ho:l[o]? =some v):zc h (.ptr b o)=some v:=by
 obtain⟨h1,rfl⟩:=List.getElem?_eq_some_iff.1 ho;exact k.cell h1
theorem z1f0{t:T AV}{l:List AV}:∀(n o:Nat),(∀i,o≤i→i<o+n→t.get i=l[i]?)→o+n≤l.length→t.take o n=some ((l.drop o).take n)
 |0,o,_,_=>by simp[T.take]
 |n+1,o,hq,ho=>by
  have h1:t.get o=some (l[o]'(by omega)):=by
   rw[hq o (by omega) (by omega)];exact List.getElem?_eq_getElem (by omega)
  simp only[T.take,h1,z1f0 n (o+1) (fun i a b=>hq i (by omega) (by omega)) (by omega)];rw[List.drop_eq_getElem_cons (by omega:o<l.length),List.take_succ_cons]
theorem RowH.part(k:RowH h b e l){o n:Nat}(ho:o+n≤l.length):z44 h b o n=some ((l.drop o).take n):=by
 obtain⟨t,h1,h2⟩:=k;unfold z44;rw[h1];exact z1f0 n o (fun i _ hi=>h2 i (by omega)) ho
theorem RowH.ld(k:RowH h b e l){o n:Nat}(ho:o+n≤l.length):z2c h n (.ptr b o)=some ((l.drop o).take n):=k.part ho
theorem RowH.ldAll(k:RowH h b e l){n:Nat}(hn:l.length=n):z2c h n (.ptr b 0)=some l:=by
 rw[k.ld (by omega)];subst hn
 simp
theorem RowH.type(k:RowH h b e l):z91 h b=some e:=by
 obtain⟨t,h1,_⟩:=k;unfold z91;rw[h1]
def z379(l:List AV)(o:Nat)(vs:List AV):List AV:=l.take o++vs++l.drop (o+vs.length)
theorem z19a{o:Nat}(ho:o+vs.length≤l.length):(z379 l o vs).length=l.length:=by
 unfold z379;simp only[List.length_append,List.length_take,List.length_drop];omega
theorem z19b{o:Nat}(ho:o+vs.length≤l.length)(i:Nat):(z379 l o vs)[i]? =if o≤i∧i<o+vs.length then vs[i - o]? else l[i]?:=by
 unfold z379
 by_cases h1:i<o
 ·rw[if_neg (by omega),List.append_assoc,List.getElem?_append_left (by rw[List.length_take];omega),List.getElem?_take_of_lt h1]
 ·by_cases h2 : i < o + vs.length
  ·rw[if_pos ⟨by omega,h2⟩,List.append_assoc,List.getElem?_append_right (by rw[List.length_take];omega),List.getElem?_append_left (by rw[List.length_take];omega),List.length_take,Nat.min_eq_left (by omega)]
  ·rw[if_neg (by omega),List.getElem?_append_right (by rw[List.length_append,List.length_take];omega),List.getElem?_drop,List.length_append,List.length_take,Nat.min_eq_left (by omega),show o+vs.length+(i - (o+vs.length))=i by omega]
theorem RowH.put(k:RowH h b e l){o:Nat}(ho:o+vs.length≤l.length)(h1:vs.all AV.one=true):∃h',z1b3 h b o vs=some h'∧RowH h' b e (z379 l o vs)∧h'.next=h.next∧h'.ex=h.ex∧∀i,i≠b→h'.get i=h.get i:=by
 obtain⟨t,h2,h3⟩:=k;refine⟨h.put b (.row l.length (t.put o vs) e),?_,⟨t.put o vs,?_,fun i hi=>?_⟩,rfl,rfl,fun i hi=>z16 _ (Ne.symm hi)⟩
 ·unfold z1b3
  rw[h2];show (if Nat.ble (o+vs.length) l.length=true∧vs.all AV.one=true then _ else none)=_;rw[if_pos ⟨Nat.ble_eq_true_of_le ho,h1⟩]
 ·rw[z1f,z19a ho]
 ·rw [z19a ho] at hi
  rw[y32,z19b ho,h3 i hi]
theorem RowH.st(k:RowH h b e l){o n:Nat}(hn:vs.length=n)(ho:o+n≤l.length)(h1:vs.all AV.one=true):∃h',z22 h n vs (.ptr b o)=some h'∧RowH h' b e (z379 l o vs)∧h'.next=h.next∧h'.ex=h.ex∧∀i,i≠b→h'.get i=h.get i:=by
 subst hn;obtain⟨h',a1,a2⟩:=k.put ho h1;refine⟨h',?_,a2⟩;simp only[z22,Nat.beq_refl,a1]
theorem RowH.st1(k:RowH h b e l){o:Nat}(ho:o<l.length)(h1:v.one=true):∃h',z22 h 1 [v] (.ptr b o)=some h'∧RowH h' b e (l.set o v)∧h'.next=h.next∧h'.ex=h.ex∧∀i,i≠b→h'.get i=h.get i:=by
 obtain⟨h',a1,a2,a3⟩:=k.st (o:=o) (n:=1) (vs:=[v]) rfl (by omega) (by simp[h1]);refine⟨h',a1,?_,a3⟩
 have:z379 l o [v]=l.set o v:=by
  apply List.ext_getElem?;intro i;rw[z19b (show o+[v].length≤l.length by simp only[List.length_cons,List.length_nil];omega),List.getElem?_set]
  by_cases hi:o=i
  ·subst hi
   simp[ho]
  ·rw[if_neg (by simp;omega),if_neg hi]
 rw[←this];exact a2
theorem laid_all(hv:vs.length=l.length):z379 l 0 vs=vs:=by
 unfold z379;rw[hv]
 simp
theorem RowH.stAll(k:RowH h b e l){n:Nat}(hn:vs.length=n)(hl:l.length=n)(h1:vs.all AV.one=true):∃h',z22 h n vs (.ptr b 0)=some h'∧RowH h' b e vs∧h'.next=h.next∧h'.ex=h.ex∧∀i,i≠b→h'.get i=h.get i:=by
 obtain⟨h',a1,a2,a3⟩:=k.st (o:=0) hn (by omega) h1;rw[laid_all (by omega)] at a2;exact⟨h',a1,a2,a3⟩
theorem z38e(h1:h'.next=h.next)(h2:h'.ex=h.ex)(h3:∀i,i≠b→h'.get i=h.get i)(hb:b∈S∨h.next≤b):Tch S h h':=⟨by omega,h2,fun i hi hS=>h3 i (fun e=>by
 subst e
 rcases hb with h|h
 ·exact hS h
 ·omega)⟩
theorem Slc.tch{N sz:Nat}{x:AV}{ls:List (List AV)}(hs:Slc N h sz x ls)(k:Tch S h h')(hN:N≤h.next)(hd:∀b∈S,N≤b):Slc N h' sz x ls:=
 hs.keep (Nat.le_refl _) fun b o hb hg=>by rw[k.2.2 b (by omega) (fun hm=>by have:=hd b hm;omega)];exact hg
end
end
noncomputable section
open Go.RowKit
section
variable {P:Program}{h:AHeap}{b o n m sz:Nat}{t e e':TypeId}{l cs:List AV}{src:AV}
theorem z143(hn:n≤m):z10d h sz n (.sl b o m sz)=z44 h b o (n*sz):=by
 show (if sz=sz∧n≤m then z44 h b o (n*sz) else none)=_;rw[if_pos ⟨rfl,hn⟩]
theorem z46b{k1:IntKind}{l1:Nat}(he:elemOf P t=some e)(hi:(P.info? e).isSome=true)(hsz:P.cellsOf e=sz)(h1:l1≤m)(hne:¬(l1=m∧0<l1)):
  z90 P h t (.sl b o m sz) (some (.int k1 (l1:Int))) none=some (.val (.sl b (o+l1*sz) (m - l1) sz),h):=by
 have b1:z88 (some (AV.int k1 (l1:Int))) 0=some l1:=rfl;have b2:z88 none m=some m:=rfl;simp only[z90,z18f,b1,b2,he];rw[if_pos ⟨Nat.ble_eq_true_of_le h1,Nat.ble_eq_true_of_le (Nat.le_refl m),hsz.symm,hi⟩,if_neg (fun hc=>hne ⟨Nat.eq_of_beq_eq_true hc.1,Nat.le_of_ble_eq_true hc.2⟩)]
theorem z4a4{k1:IntKind}(he:elemOf P t=some e)(hi:(P.info? e).isSome=true)(hsz:P.cellsOf e=sz)(h0:0<m):
  z90 P h t (.sl b o m sz) (some (.int k1 (m:Int))) none=some (.val .esl,h):=by
 have b1:z88 (some (AV.int k1 (m:Int))) 0=some m:=rfl;have b2:z88 none m=some m:=rfl;simp only[z90,z18f,b1,b2,he];rw[if_pos ⟨Nat.ble_eq_true_of_le (Nat.le_refl m),Nat.ble_eq_true_of_le (Nat.le_refl m),hsz.symm,hi⟩,if_pos ⟨Nat.beq_refl m,Nat.ble_eq_true_of_le h0⟩]
theorem z45b{s d:TypeId}{x:Bytes}(hs:z406 P s=true)(hd:isStr P d=true)(hr:z44 h b o x.length=some (z32 x)):z7b P h s d (some (.sl b o x.length 1))=some (.val (z5 x),h):=by
 obtain⟨w,h1,h2⟩:=z1a0 x;unfold isStr at hd;unfold z406 at hs;cases h3:P.underlying d with
 |none=>simp only[h3] at hd;cases hd
 |some ud=>
  cases ud<;>simp only[h3,reduceCtorEq] at hd
  cases h4:P.underlying s with
  |none=>simp only[h4] at hs;cases hs
  |some us=>
   cases us<;>simp only[h4,reduceCtorEq] at hs
   rename_i e;cases h5:P.underlying e with
   |none=>simp only[h5] at hs;cases hs
   |some ue=>
    cases ue<;>simp only[h5,reduceCtorEq] at hs
    rename_i k
    cases k<;>simp only[reduceCtorEq] at hs
    simp only[z7b,ze0,h3,h4,h5,hr,h1,if_true,h2]
theorem z3d9(n:Nat):z32 (List.replicate n 0)=List.replicate n (.int .u8 0):=by simp[z32]
theorem z313{k1 k2:IntKind}(he:elemOf P t=some e)(hz:z176 P e=some (.int .u8 0))(hsz:P.cellsOf e=1)(hfit:z482 P e 1=true)(hex:zbf e h.ex=false)(h1:n≤m)(h2:m≤1000000000):
  z11f P h t (some (.int k1 (n:Int))) (some (.int k2 (m:Int)))=some (.val (.sl h.next 0 n 1),newH h e (z32 (List.replicate m 0))):=by
 have hf:zc9 P e m=true:=z31 hfit (by omega) h2
 have hc:(List.replicate m (AV.int .u8 0).cells).flatten=z32 (List.replicate m 0):=by
  rw[z3d9];show (List.replicate m [AV.int .u8 0]).flatten=_;clear hf h1 h2
  induction m with
  |zero=>rfl
  |succ m ih=>rw[List.replicate_succ,List.replicate_succ,List.flatten_cons,ih];rfl
 show (match elemOf P t with|some e=>(match z176 P e with|some z=>if Nat.ble n m=true∧zc9 P e m=true then z83 h e (List.replicate m z.cells).flatten n (P.cellsOf e) else none|none=>none)|none=>none)=_;simp only[he,hz];rw[if_pos ⟨Nat.ble_eq_true_of_le h1,hf⟩,hc,hsz];unfold z83;rw[if_pos ⟨z126 _,hex⟩];rfl
end
end
noncomputable section
open Go.RowKit
def Buf(U8 lo:Nat)(h:AHeap)(v:AV)(l:Bytes):Prop:=
 ∃c,v=.sl c 0 l.length 1∧lo≤c∧c<h.next∧z44 h c 0 l.length=some (z32 l)∧z91 h c=some U8
section
variable {P:Program}{h h':AHeap}{U8 lo:Nat}{l:Bytes}{t u:TypeId}{x v:AV}{S:List Nat}
theorem z2d8{b o m n e sz:Nat}(he:elemOf P t=some e)(hu:z106 P u=true)(hsz:P.cellsOf e=sz)(hn:n=0)(hx:z205 x=some n)(hf:z10d h sz n x=some [])(hfit:zc9 P e (m+n)=true)(hex:zbf e h.ex=false):
  z34 P h t u (.sl b o m sz) x=some (.val (.sl b o m sz),h):=by
 subst hn;unfold z106 at hu;unfold z34;have hl:z205 (.sl b o m sz)=some m:=rfl
 split at hu
 ·cases hu
 ·rename_i ud hni heq
  simp only[he,hl,hx,heq,hsz,hf,hfit,hex,List.all_nil,and_self,if_true];rfl
 ·cases hu
theorem Buf.new{m:Nat}(hlo:lo≤h.next):Buf U8 lo (newH h U8 (z32 (List.replicate m 0))) (.sl h.next 0 0 1) []:=
 ⟨h.next, rfl, hlo, Nat.lt_succ_self _, by
  rw[z3f3 (by simp)]
  simp[z32],z3a3⟩
end
end
noncomputable section
open Go.RowKit
def Wp(x:R)(Q:ARes→AHeap→Prop):Prop:=∃r h,x=some (r,h)∧Q r h
section
variable {α β:Type}{Q Q':ARes→AHeap→Prop}{r:ARes}{h h1:AHeap}{v:AV}{x y:R}{b:Bool}
theorem Wp.ret(hq:Q r h):Wp (some (r,h)) Q:=⟨r,h,rfl,hq⟩
theorem Wp.of(e:x=some (r,h))(hq:Q r h):Wp x Q:=⟨r,h,e,hq⟩
theorem Wp.mono(k:Wp x Q)(hq:∀r h,Q r h→Q' r h):Wp x Q':=by
 obtain⟨r,h,e,q⟩:=k;exact⟨r,h,e,hq r h q⟩
theorem Wp.eq(k:Wp x fun r' h'=>r'=r∧h'=h):x=some (r,h):=by
 obtain⟨_,_,e,rfl,rfl⟩:=k;exact e
theorem Wp.ex{Q:AHeap→Prop}(k:Wp x fun r' h'=>r'=r∧Q h'):∃h',x=some (r,h')∧Q h':=by
 obtain⟨_,h',e,rfl,q⟩:=k;exact⟨h',e,q⟩
theorem Wp.lett{v:α}{k:α→R}(hk:Wp (k v) Q):Wp (lett v k) Q:=hk
theorem yd{v:Int}{k:Int→R}(h1: -9223372036854775808≤v)(h2:v<9223372036854775808)(hk:Wp (k v) Q):Wp (Abs.lett (IntKind.i64.wrap v) k) Q:=by
 rw[z188 h1 h2];exact hk
theorem y19{v:Int}{k:Int→R}(h1:0≤v)(h2:v<4294967296)(hk:Wp (k v) Q):Wp (Abs.lett (IntKind.u32.wrap v) k) Q:=by
 rw[z12f,Int.emod_eq_of_lt h1 h2];exact hk
theorem y13{v:Int}{k:Int→R}(h1:0≤v)(h2:v<18446744073709551616)(hk:Wp (k v) Q):Wp (Abs.lett (IntKind.u64.wrap v) k) Q:=by
 rw[z12e,Int.emod_eq_of_lt h1 h2];exact hk
theorem y28{F:AHeap→R}{G:(AHeap→R)→R}(hk:∀k,k=F→Wp (G k) Q):Wp (Abs.lett F G) Q:=hk F rfl
theorem y27{F:α→AHeap→R}{G:(α→AHeap→R)→R}(hk:∀k,k=F→Wp (G k) Q):Wp (Abs.lett F G) Q:=hk F rfl
theorem y38{k F:AHeap→R}(e:k=F)(hk:Wp (F h) Q):Wp (k h) Q:=by rw[e];exact hk
theorem y37{k F:α→AHeap→R}{a:α}(e:k=F)(hk:Wp (F a h) Q):Wp (k a h) Q:=by rw[e];exact hk
theorem Wp.obind{o:Option α}{a:α}{k:α→R}(e:o=some a)(hk:Wp (k a) Q):Wp (Abs.obind o k) Q:=by rw[e];exact hk
theorem y9(e:b=true)(hk:Wp x Q):Wp (ifB b x y) Q:=by rw[e];exact hk
theorem y8(e:b=false)(hk:Wp y Q):Wp (ifB b x y) Q:=by rw[e];exact hk
theorem Wp.outK{o:z8a}{k:AV→AHeap→R}(e:o=some (.val v,h1))(hk:Wp (k v h1) Q):Wp (Abs.outK o k) Q:=by rw[e];exact hk
theorem Wp.callN{k:AV→AHeap→R}(e:x=some (.ret v,h1))(hk:Wp (k v h1) Q):Wp (Abs.callN x k) Q:=by rw[e];exact hk
theorem Wp.callK{k:AV→AHeap→R}(e:x=some (.ret v,h1))(hk:Wp (k v h1) Q):Wp (Abs.callK x k) Q:=by rw[e];exact hk
theorem Wp.chk(e:b=true)(hk:Wp x Q):Wp (Abs.chk b x) Q:=by rw[e];exact hk
theorem y3b(hx:Wp x fun r h'=>Above h h'∧r.val.scal=true∧Q r h):Wp (gcR h x) Q:=by
 obtain⟨r,h',e,ha,hv,q⟩:=hx;rw[e,z35f ha hv];exact⟨_,_,rfl,q⟩
theorem y29(hx:Wp x fun r h'=>Q r h'∧(Above h h'→Q r h)):Wp (gcR h x) Q:=by
 obtain⟨r,h',e,q1,q2⟩:=hx;rw[e];unfold gcR
 split
 ·rename_i e2
  simp only[Option.some.injEq,Prod.mk.injEq] at e2;obtain⟨rfl,rfl⟩:=e2
  split
  ·rename_i hc
   exact⟨_,_,rfl,q2 hc.1⟩
  ·exact⟨_,_,rfl,q1⟩
 ·rename_i e2
  cases e2
theorem Wp.gcn(hx:Wp x fun r h'=>r.val.lo h.next=false∧Q r h'):Wp (gcR h x) Q:=by
 obtain⟨r,h',e,hv,q⟩:=hx;rw[e,z35e hv];exact⟨_,_,rfl,q⟩
end
theorem z28{l:Bytes}{a b:Int}(h0:0≤a)(h1:a≤b)(h2:b≤(l.length:Int)):z43 l a b=some ((l.drop a.toNat).take (b.toNat - a.toNat)):=by
 obtain⟨n,rfl⟩:=Int.eq_ofNat_of_zero_le h0;obtain⟨m,rfl⟩:=Int.eq_ofNat_of_zero_le (Int.le_trans h0 h1);exact z46c (by omega) (by omega)
theorem zb3{a b:Bytes}(h:a.length+b.length≤1000000000):z37b a b=some (a++b):=by
 unfold z37b;rw[Nat.ble_eq_true_of_le h]
theorem zf(b o:Nat):z53 (.ptr b o)=some (.ptr b o):=rfl
theorem z8(f b o:Nat):z27 f (.ptr b o)=some (.ptr b (o+f)):=rfl
theorem z23(h:AHeap):z13 h=.ptr h.next 0:=rfl
theorem z1af{a b:Int}(h:a≠b):(a != b)=true:=by simp[h]
theorem z185{a b:Int}(h:a=b):(a != b)=false:=by simp[h]
theorem z127{a b:Int}(h:a=b):(a == b)=true:=by simp[h]
theorem zca{a b:Int}(h:a≠b):(a == b)=false:=by simp[h]
section
variable {Q:ARes→AHeap→Prop}{h:AHeap}{b o n:Nat}{e:TypeId}{l vs:List AV}{v:AV}{K:AHeap→R}
theorem Wp.st1(k:RowH h b e l)(ho:o<l.length)(h1:v.one=true)(hk:∀h',RowH h' b e (l.set o v)→Tch [b] h h'→h'.next=h.next→Wp (K h') Q):Wp (Abs.obind (z22 h 1 [v] (.ptr b o)) K) Q:=by
 obtain⟨h',e1,e2,e3,e4,e5⟩:=k.st1 ho h1;exact Wp.obind e1 (hk h' e2 (z38e e3 e4 e5 (.inl (by simp))) e3)
theorem y3c(k:RowH h b e l)(hn:vs.length=n)(ho:o+n≤l.length)(h1:vs.all AV.one=true)(hk:∀h',RowH h' b e (z379 l o vs)→Tch [b] h h'→h'.next=h.next→Wp (K h') Q):Wp (Abs.obind (z22 h n vs (.ptr b o)) K) Q:=by
 obtain⟨h',e1,e2,e3,e4,e5⟩:=k.st hn ho h1;exact Wp.obind e1 (hk h' e2 (z38e e3 e4 e5 (.inl (by simp))) e3)
theorem Wp.stAll(k:RowH h b e l)(hn:vs.length=n)(hl:l.length=n)(h1:vs.all AV.one=true)(hk:∀h',RowH h' b e vs→Tch [b] h h'→h'.next=h.next→Wp (K h') Q):Wp (Abs.obind (z22 h n vs (.ptr b 0)) K) Q:=by
 obtain⟨h',e1,e2,e3,e4,e5⟩:=k.stAll hn hl h1;exact Wp.obind e1 (hk h' e2 (z38e e3 e4 e5 (.inl (by simp))) e3)
end
def Sli(e sz lo:Nat)(h:AHeap)(v:AV)(rows:List (List AV)):Prop:=
 (∀r∈rows,r.length=sz∧r.all AV.one=true)∧((rows=[]∧v=.nsl)∨∃c,rows≠[]∧v=.sl c 0 rows.length sz∧lo≤c∧c<h.next∧RowH h c e rows.flatten)
section
variable {P:Program}{e sz lo:Nat}{h h':AHeap}{v x:AV}{rows:List (List AV)}{r:List AV}{t u:TypeId}{S:List Nat}
theorem Sli.nil(e sz lo:Nat)(h:AHeap):Sli e sz lo h .nsl []:=⟨by simp,.inl ⟨rfl,rfl⟩⟩
theorem Sli.ab(k:Sli e sz lo h v rows)(hn:h.next≤h'.next)(hg:∀b,lo≤b→b<h.next→h'.get b=h.get b):Sli e sz lo h' v rows:=by
 refine⟨k.1,?_⟩
 rcases k.2 with h0|⟨c,h1,h2,h3,h4,h5⟩
 ·exact .inl h0
 ·exact .inr ⟨c,h1,h2,h3,by omega,h5.same (hg c h3 h4)⟩
theorem Sli.tch(k:Sli e sz lo h v rows)(ht:Tch S h h')(hS:∀b∈S,b<lo):Sli e sz lo h' v rows:=
 k.ab ht.1 fun b h1 h2=>ht.2.2 b h2 fun hm=>by have:=hS b hm;omega
theorem Sli.slc(k:Sli e sz lo h v rows):Slc h.next h sz v rows:=by
 refine⟨fun l hl=>(k.1 l hl).1,?_⟩
 rcases k.2 with⟨rfl,rfl⟩|⟨c,h1,rfl,h3,h4,t,h5,h6⟩
 ·exact .inl ⟨rfl,.inl rfl⟩
 ·exact .inr ⟨c,h1,h4,rfl,t,.inr ⟨_,_,h5⟩,h6⟩
theorem Sli.push(k:Sli e sz lo h v rows){B:Nat}(he:elemOf P t=some e)(hu:z106 P u=true)(hsz:P.cellsOf e=sz)(hfit:z482 P e B=true)(hex:zbf e h.ex=false)(hlo:lo≤h.next)(hx:z205 x=some 1)(hf:z10d h sz 1 x=some r)(hr:r.length=sz)(hr1:r.all AV.one=true)(hbig:(rows.length+1)*B≤1000000000)(hbig2:rows.length+1≤1000000000):
  ∃v' h',z34 P h t u v x=some (.val v',h')∧Sli e sz lo h' v' (rows++[r])∧Ab lo h h':=by
 have hall:∀q∈rows++[r],q.length=sz∧q.all AV.one=true:=by
  intro q hq
  rcases List.mem_append.1 hq with hq|hq
  ·exact k.1 q hq
  ·simp at hq
   subst hq;exact⟨hr,hr1⟩
 have hfl:(rows++[r]).flatten=rows.flatten++r:=by simp
 rcases k.2 with⟨rfl,rfl⟩|⟨c,h1,rfl,h3,h4,h5⟩
 ·have a1 := z128 (P := P) (h := h) (t := t) (u := u) (n := 0) (x := x) he hu hsz hx hf (z31 hfit (by simpa using hbig) (by omega)) hr1 hex
  refine⟨_,_,a1,⟨hall,.inr ⟨h.next,by simp,rfl,hlo,Nat.lt_succ_self _,?_⟩⟩,(Ab.refl lo h).new hlo _⟩;rw[hfl];exact RowH.new _ _ _
 ·have hl := z28c rows (fun l hl => (k.1 l hl).1)
  have a1:=zc4 (P:=P) (h:=h) (t:=t) (u:=u) (b:=c) (o:=0) (m:=rows.length) (n:=0) (x:=x) (cs:=rows.flatten) he hu hsz hx hf (z31 hfit hbig hbig2) hr1 hex (by
   have:=h5.part (o:=0) (n:=rows.flatten.length) (by omega);rw[List.drop_zero,List.take_length] at this;rw[←hl];exact this) h5.type
  refine⟨_,_,a1,⟨hall,.inr ⟨h.next,by simp,by simp,hlo,Nat.lt_succ_self _,?_⟩⟩,((Ab.refl lo h).put h3 _).new (by show lo≤h.next;exact hlo) _⟩;rw[hfl];exact RowH.new (h.put c .dead) e _
end
end
noncomputable section
open Go.RowKit
def BuB(U8:TypeId)(h:AHeap)(b c:Nat)(buf:AV)(l:Bytes):Prop:=
 (buf=.nsl∧l=[]∧c=b)∨(buf=.sl c 0 l.length 1∧l≠[]∧c≠b∧c<h.next∧RowH h c U8 (z32 l))
def BldR(TB U8:TypeId)(h:AHeap)(b c:Nat)(l:Bytes):Prop:=
 ∃a buf,RowH h b TB [a,buf]∧b<h.next∧(a=.nilp∨a=.ptr b 0)∧BuB U8 h b c buf l
section
variable {P:Program}{TB U8:TypeId}{h h':AHeap}{b c:Nat}{buf:AV}{l:Bytes}{S:List Nat}
theorem BuB.one(k:BuB U8 h b c buf l):buf.one=true∧AV.cells buf=[buf]∧z12d buf=some (l.length:Int):=by
 rcases k with⟨rfl,rfl,_⟩|⟨rfl,_⟩<;>exact⟨rfl,rfl,rfl⟩
theorem BuB.tch(k:BuB U8 h b c buf l)(ht:Tch S h h')(hS:c≠b→c ∉ S):BuB U8 h' b c buf l:=by
 rcases k with k|⟨h1,h2,h3,h4,h5⟩
 ·exact .inl k
 ·exact .inr ⟨h1,h2,h3,by have:=ht.1;omega,h5.tch ht h4 (hS h3)⟩
theorem BldR.new(TB U8:TypeId)(h:AHeap):BldR TB U8 (newH h TB [.nilp,.nsl]) h.next h.next []:=
 ⟨_,_,RowH.new h TB [.nilp,.nsl],Nat.lt_succ_self _,.inl rfl,.inl ⟨rfl,rfl,rfl⟩⟩
theorem BuB.append{t u:TypeId}(k:BuB U8 h b c buf l)(hb:b<h.next)(s:Bytes)(he:elemOf P t=some U8)(hu:z106 P u=true)(hsz:P.cellsOf U8=1)(hfit:z482 P U8 1=true)(hex:zbf U8 h.ex=false)(hbig:l.length+s.length≤1000000000):
  ∃buf' c' h',z34 P h t u buf (z5 s)=some (.val buf',h')∧BuB U8 h' b c' buf' (l++s)∧(c'=c∨h.next≤c')∧Tch [c] h h'∧h'.get b=h.get b:=by
 cases s with
 |nil=>
  have hlen:z205 buf=some l.length:=by rcases k with⟨rfl,rfl,_⟩|⟨rfl,_⟩<;>rfl
  refine⟨buf,c,h,?_,by rw[List.append_nil];exact k,.inl rfl,Tch.refl _ _,rfl⟩;have h0:z205 (z5 [])=some 0:=rfl;have hf:z10d h 1 0 (z5 [])=some []:=zf7 [];have hl0:l.length≤1000000000:=by simpa using hbig
  have hfit2:=z31 (P:=P) (e:=U8) (B:=1) (k:=l.length+0) hfit (by omega) (by omega);have hap:z2da h U8 1 buf [] 0=some (.val buf,h):=by rcases k with⟨rfl,_⟩|⟨rfl,_⟩<;>rfl
  unfold z106 at hu;unfold z34
  split at hu
  ·cases hu
  ·rename_i ud hni heq
   simp only[he,hlen,h0,heq,hsz,hf,hfit2,hex,List.all_nil,and_self,if_true];exact hap
  ·cases hu
 |cons y s=>
  rcases k with⟨rfl,rfl,rfl⟩|⟨rfl,k0,k1,k2,k3⟩
  ·have e2 := z128 (P := P) (h := h) (t := t) (u := u) (n := s.length) (x := z5 (y :: s)) he hu hsz rfl (zf7 (h := h) (y :: s)) (z31 hfit (by simp at hbig; omega) (by simp at hbig; omega)) (z126 _) hex
   refine⟨_,h.next,_,e2,.inr ⟨by simp,by simp,by omega,Nat.lt_succ_self _,?_⟩,.inr (Nat.le_refl _),Tch.newH _ _ _ _,z1b _ (by omega)⟩;rw[List.nil_append];exact RowH.new _ _ _
  ·have e2 := zc4 (P := P) (h := h) (t := t) (u := u) (b := c) (o := 0) (m := l.length) (x := z5 (y :: s)) (n := s.length) (cs := z32 l) he hu hsz rfl (zf7 (h := h) (y :: s)) (z31 hfit (by simp at hbig; omega) (by simp at hbig; omega)) (z126 _) hex (by
    have:=k3.part (o:=0) (n:=(z32 l).length) (by omega);rw[List.drop_zero,List.take_length,z5b] at this;rw[Nat.mul_one];exact this) k3.type
   have t1:Tch [c] h (h.put c .dead):=Tch.put (.inl (by simp)) _;refine⟨_,h.next,_,e2,.inr ⟨by simp,by simp,by omega,Nat.lt_succ_self _,?_⟩,.inr (Nat.le_refl _),t1.trans (Tch.new _ _ _),?_⟩
   ·rw [z10e]
    exact RowH.new (h.put c .dead) U8 _
   ·exact(z1b (H:=h.put c .dead) _ (show h.next≠b by omega)).trans (z16 _ k1)
end
end
noncomputable section
open Go.RowKit
def z403:AV→Nat
 | .bool _=>0
 | .int _ _=>1
 | .str _ _=>2
 |_=>9
def kindT(P:Program)(t:TypeId):Nat:=match P.underlying t with
 |some .bool=>0
 |some (.int _)=>1
 |some .string=>2
 |_=>8
def z152(P:Program):List Field→List Nat→Nat→Bool
 |[],[],_=>true
 |f::fs,k::ks,o=>(f.name != "_")&&Nat.beq f.offset o&&Nat.beq (kindT P f.type) k&&z152 P fs ks (o+1)
 |_,_,_=>false
def z22a:AV→AV→Option Bool
 | .bool a,.bool b=>some (a == b)
 | .int k a,.int k' b=>if k=k' then some (a == b) else none
 | .str n a,.str m b=>some (Nat.beq n m&&Nat.beq a b)
 |_,_=>none
def eqL:List Nat→List AV→List AV→Option Bool
 |[],[],[]=>some true
 |k::ks,x::xs,y::ys=>if z403 x=k then match z22a x y with
  |some true=>eqL ks xs ys
  |r=>r else none
 |_,_,_=>none
section
variable {P:Program}
theorem eqA_cell{d:Nat}{t:TypeId}{x y:AV}{b:Bool}(hk:z403 x=kindT P t)(he:z22a x y=some b):eqA P (d+1) t x y=some b:=by
 unfold kindT at hk;unfold eqA;cases hu:P.underlying t with
 |none=>rw[hu] at hk;cases x<;>simp[z403] at hk
 |some u=>
  rw[hu] at hk
  cases u<;>cases x<;>simp[z403] at hk<;>cases y<;>simp[z22a] at he<;>simp_all
theorem z30c{t:TypeId}{l:List AV}{o:Nat}{x:AV}(hk:kindT P t<3)(hx:l[o]? =some x):z1f8 P t l o=some x:=by
 unfold kindT at hk;unfold z1f8;cases hu:P.underlying t with
 |none=>rw[hu] at hk;simp at hk
 |some u=>
  rw[hu] at hk
  cases u<;>simp at hk<;>simp[z1ab,hu,z1a7,hx]
theorem kind_lt{x y:AV}{b:Bool}(he:z22a x y=some b):z403 x<3:=by
 cases x<;>cases y<;>simp[z22a] at he<;>simp[z403]
theorem z229:∀(fs:List Field) (ks:List Nat) (o d:Nat) (xs ys px py:List AV) (b:Bool),z152 P fs ks o=true→px.length=o→py.length=o→eqL ks xs ys=some b→fs.length<d→eqFields P (d+1) fs (px++xs) (py++ys)=some b
 |[],ks,o,d,xs,ys,px,py,b,hf,_,_,he,_=>by
  cases ks with
  |cons k ks=>simp[z152] at hf
  |nil=>
   cases xs<;>cases ys<;>simp[eqL] at he
   subst he;rfl
 |f::fs,ks,o,d,xs,ys,px,py,b,hf,hx,hy,he,hd=>by
  cases ks with
  |nil=>simp[z152] at hf
  |cons k ks=>
   cases xs with
   |nil=>simp[eqL] at he
   |cons x xs=>
    cases ys with
    |nil=>simp[eqL] at he
    |cons y ys=>
     simp only[z152,Bool.and_eq_true] at hf;obtain⟨⟨⟨h1,h2⟩,h3⟩,h4⟩:=hf;have h1:¬f.name= "_" :=by simpa using h1
     have h2:=Nat.eq_of_beq_eq_true h2;have h3:=Nat.eq_of_beq_eq_true h3;simp only[eqL] at he
     split at he
     ·rename_i hk
      have hlx:(px++x::xs)[o]? =some x:=by rw[List.getElem?_append_right (by omega),hx,Nat.sub_self];rfl
      have hly:(py++y::ys)[o]? =some y:=by rw[List.getElem?_append_right (by omega),hy,Nat.sub_self];rfl
      obtain⟨d',rfl⟩:∃d',d=d'+1:=⟨d - 1,by simp only[List.length_cons] at hd;omega⟩;cases hc:z22a x y with
      |none=>rw[hc] at he;cases he
      |some c=>
       have hk3:=kind_lt hc;rw[hc] at he;unfold eqFields;rw[if_neg h1,h2,z30c (by omega) hlx,z30c (by omega) hly]
       simp only
       rw[eqA_cell (d:=d') (by omega) hc]
       cases c with
       |false=>exact he
       |true=>
        simp only at he ⊢
        have:=z229 fs ks (o+1) d' xs ys (px++[x]) (py++[y]) b h4 (by simp[hx]) (by simp[hy]) he (by simp only[List.length_cons] at hd;omega)
        simpa using this
     ·cases he
def flatB(P:Program)(t:TypeId)(ks:List Nat):Bool:=(match P.underlying t with
 |some (.struct _)=>true
 |_=>false)&& !(P.eqGuardType P.depth t)&& !(P.stoodInHeld t)&&z152 P (P.fieldsOf t).toList ks 0&&Nat.blt (P.fieldsOf t).toList.length 1000
theorem eq_flat{t:TypeId}{ks:List Nat}{xs ys:List AV}{b:Bool}(hf:flatB P t ks=true)(he:eqL ks xs ys=some b):z9f P t (.agg xs) (.agg ys)=some b:=by
 unfold flatB at hf;simp only[Bool.and_eq_true,Bool.not_eq_true'] at hf;obtain⟨⟨⟨⟨h1,h2⟩,h3⟩,h4⟩,h5⟩:=hf;have h5:(P.fieldsOf t).toList.length <1000:=Nat.le_of_ble_eq_true h5;unfold z9f;simp only[h2,Bool.false_eq_true,if_false];unfold eqA;cases hu:P.underlying t with
 |none=>rw[hu] at h1;cases h1
 |some u=>
  rw[hu] at h1
  cases u<;>simp at h1
  simp only[h3,Bool.false_eq_true,if_false];exact z229 _ ks 0 1998 xs ys [] [] b h4 rfl rfl he (by omega)
end
theorem z31e(k:IntKind)(a b:Int):z22a (.int k a) (.int k b)=some (a == b):=by simp[z22a]
theorem z44b{k:Nat}{ks:List Nat}{x y:AV}{xs ys:List AV}{b c:Bool}(hk:z403 x=k)(h1:z22a x y=some b)(h2:eqL ks xs ys=some c):eqL (k::ks) (x::xs) (y::ys)=some (b&&c):=by
 simp only[eqL,hk,if_true,h1]
 cases b with
 |true=>simpa using h2
 |false=>rfl
end
noncomputable section
open Go.RowKit
abbrev RowT:=Nat×TypeId×List AV
structure Mem (S:List Nat) (h0 h:AHeap) (rs:List RowT):Prop where
 row:∀x∈rs,RowH h x.1 x.2.1 x.2.2∧x.1<h.next∧(x.1∈S∨h0.next≤x.1)
 apart:(rs.map (·.1)).Nodup
 tch:Tch S h0 h
section
variable {S:List Nat}{h0 h h':AHeap}{xs ys rs:List RowT}{b o n:Nat}{e:TypeId}{l l' vs:List AV}{v:AV}{Q:ARes→AHeap→Prop}{K:AHeap→R}{x:R}{x0 x1 x2 x3 x4:RowT}
theorem Mem.nil(S:List Nat)(h:AHeap):Mem S h h []:=⟨by simp,by simp,Tch.refl _ _⟩
theorem Mem.one(k:RowH h b e l)(hb:b<h.next):Mem [b] h h [(b,e,l)]:=⟨by simpa using ⟨k,hb⟩,by simp,Tch.refl _ _⟩
theorem Mem.at(M:Mem S h0 h (xs++(b,e,l)::ys)):RowH h b e l∧b<h.next∧(b∈S∨h0.next≤b):=M.row (b,e,l) (by simp)
theorem Mem.upd(M:Mem S h0 h (xs++(b,e,l)::ys))(ht:Tch [b] h h')(k:RowH h' b e l'):Mem S h0 h' (xs++(b,e,l')::ys):=by
 have hap:=M.apart;have hle:=ht.1;simp only[List.map_append,List.map_cons] at hap
 have hne:∀x∈xs++ys,x.1≠b:=by
  intro x hx hxb;rw[List.nodup_append] at hap;obtain⟨_,h2,h3⟩:=hap;rw[List.nodup_cons] at h2
  rcases List.mem_append.1 hx with hx|hx
  ·exact h3 x.1 (List.mem_map_of_mem hx) b (by simp) hxb
  ·exact h2.1 (by rw[←hxb];exact List.mem_map_of_mem hx)
 refine⟨fun x hx=>?_,by simpa only[List.map_append,List.map_cons] using hap,M.tch.trans' ht fun i hi=>?_⟩
 ·have hx' : x ∈ xs ++ ys ∨ x = (b, e, l') := by
   rcases List.mem_append.1 hx with hx|hx
   ·exact .inl (List.mem_append_left _ hx)
   ·rcases List.mem_cons.1 hx with hx | hx
    ·exact .inr hx
    ·exact .inl (List.mem_append_right _ hx)
  rcases hx' with hx'|rfl
  ·obtain ⟨h1, h2, h3⟩ := M.row x (by
    rcases List.mem_append.1 hx' with hx|hx
    ·exact List.mem_append_left _ hx
    ·exact List.mem_append_right _ (List.mem_cons_of_mem _ hx))
   exact⟨h1.tch ht h2 (by simpa using hne x hx'),by omega,h3⟩
  ·have := M.at
   exact⟨k,by show b<h'.next;omega,this.2.2⟩
 ·simp only [List.mem_cons, List.not_mem_nil, or_false] at hi
  subst hi;exact M.at.2.2
theorem Mem.keep(M:Mem S h0 h rs)(ht:Tch [] h h'):Mem S h0 h' rs:=by
 have hle:=ht.1;refine⟨fun x hx=>?_,M.apart,M.tch.trans (ht.mono (by simp))⟩;obtain⟨h1,h2,h3⟩:=M.row x hx;exact⟨h1.tch ht h2 (by simp),by omega,h3⟩
theorem Mem.new(M:Mem S h0 h rs)(ht:Tch [] h h')(k:RowH h' b e l)(hb:h.next≤b)(hb2:b<h'.next):Mem S h0 h' ((b,e,l)::rs):=by
 have M':=M.keep ht;have hle:=M.tch.1;refine⟨fun x hx=>?_,?_,M'.tch⟩
 ·rcases List.mem_cons.1 hx with rfl | hx
  ·exact⟨k,hb2,.inr (by show h0.next≤b;omega)⟩
  ·exact M'.row x hx
 ·rw [List.map_cons, List.nodup_cons]
  refine⟨fun hm=>?_,M.apart⟩;obtain⟨x,hx,hxb⟩:=List.mem_map.1 hm;have:=(M.row x hx).2.1;omega
theorem Mem.newH(M:Mem S h0 h rs)(e:TypeId)(l:List AV):Mem S h0 (newH h e l) ((h.next,e,l)::rs):=M.new (Tch.newH _ _ _ _) (RowH.new _ _ _) (Nat.le_refl _) (Nat.lt_succ_self _)
theorem Mem.ex(M:Mem S h0 h rs):h.ex=h0.ex:=M.tch.2.1
theorem y12(M:Mem S h0 h rs)(hk:∀h',Mem S h0 h' ((h.next,e,l)::rs)→Wp (K h') Q):Wp (Abs.lett (Abs.newH h e l) K) Q:=hk _ (M.newH e l)
theorem y1f{K:AV→AHeap→R}(M:Mem S h0 h rs)(h1:l.all AV.one=true)(hk:∀h',Mem S h0 h' ((h.next,e,l)::rs)→Wp (K (.ptr h.next 0) h') Q):Wp (Abs.outK (zd9 h e (some (.agg l))) K) Q:=
 Wp.outK (z41c h1) (hk _ (M.newH e l))
theorem y30{K:AV→AHeap→R}{w:z8a}{sz:Nat}(M:Mem S h0 h rs)(eb:w=z83 h e l n sz)(h1:l.all AV.one=true)(hex:zbf e h0.ex=false)(hk:∀h',Mem S h0 h' ((h.next,e,l)::rs)→Wp (K (.sl h.next 0 n sz) h') Q):Wp (Abs.outK w K) Q:=by
 refine Wp.outK (v:=.sl h.next 0 n sz) (h1:=Abs.newH h e l) ?_ (hk _ (M.newH e l));rw[eb];unfold z83;rw[if_pos ⟨h1,by rw[M.ex];exact hex⟩];rfl
theorem z186{a c:Bool}(h1:a=true)(h2:c=true):(a&&c)=true:=by rw[h1,h2];rfl
theorem Mem.at0(M:Mem S h0 h ((b,e,l)::ys)):RowH h b e l∧b<h.next∧(b∈S∨h0.next≤b):=Mem.at (xs:=[]) M
theorem y16{K:AV→R}(M:Mem S h0 h ((b,e,l)::ys))(ho:l[o]? =some v)(hk:Wp (K v) Q):Wp (Abs.obind (zc h (.ptr b o)) K) Q:=Wp.obind (RowH.cell' (Mem.at (xs:=[]) M).1 ho) hk
theorem y1e{K:List AV→R}(M:Mem S h0 h ((b,e,l)::ys))(hn:l.length=n)(hk:Wp (K l) Q):Wp (Abs.obind (z2c h n (.ptr b 0)) K) Q:=Wp.obind (RowH.ldAll (Mem.at (xs:=[]) M).1 hn) hk
theorem y18(M:Mem S h0 h ((b,e,l)::ys))(hn:vs.length=n)(hl:l.length=n)(h1:vs.all AV.one=true)(hk:∀h',Mem S h0 h' ((b,e,vs)::ys)→Wp (K h') Q):Wp (Abs.obind (z22 h n vs (.ptr b 0)) K) Q:=
 Wp.stAll (Mem.at (xs:=[]) M).1 hn hl h1 fun h' k' t' _=>hk h' (Mem.upd (xs:=[]) M t' k')
theorem Wp.ms0(M:Mem S h0 h ((b,e,l)::ys))(ho:o<l.length)(h1:v.one=true)(hk:∀h',Mem S h0 h' ((b,e,l.set o v)::ys)→Wp (K h') Q):Wp (Abs.obind (z22 h 1 [v] (.ptr b o)) K) Q:=
 Wp.st1 (Mem.at (xs:=[]) M).1 ho h1 fun h' k' t' _=>hk h' (Mem.upd (xs:=[]) M t' k')
theorem Mem.at1(M:Mem S h0 h (x0::(b,e,l)::ys)):RowH h b e l∧b<h.next∧(b∈S∨h0.next≤b):=Mem.at (xs:=[x0]) M
theorem y31{K:AV→R}(M:Mem S h0 h (x0::(b,e,l)::ys))(ho:l[o]? =some v)(hk:Wp (K v) Q):Wp (Abs.obind (zc h (.ptr b o)) K) Q:=Wp.obind (RowH.cell' (Mem.at (xs:=[x0]) M).1 ho) hk
theorem Wp.lr1{K:List AV→R}(M:Mem S h0 h (x0::(b,e,l)::ys))(hn:l.length=n)(hk:Wp (K l) Q):Wp (Abs.obind (z2c h n (.ptr b 0)) K) Q:=Wp.obind (RowH.ldAll (Mem.at (xs:=[x0]) M).1 hn) hk
theorem Wp.sa1(M:Mem S h0 h (x0::(b,e,l)::ys))(hn:vs.length=n)(hl:l.length=n)(h1:vs.all AV.one=true)(hk:∀h',Mem S h0 h' (x0::(b,e,vs)::ys)→Wp (K h') Q):Wp (Abs.obind (z22 h n vs (.ptr b 0)) K) Q:=
 Wp.stAll (Mem.at (xs:=[x0]) M).1 hn hl h1 fun h' k' t' _=>hk h' (Mem.upd (xs:=[x0]) M t' k')
theorem y40{K:AV→R}(M:Mem S h0 h (x0::x1::(b,e,l)::ys))(ho:l[o]? =some v)(hk:Wp (K v) Q):Wp (Abs.obind (zc h (.ptr b o)) K) Q:=Wp.obind (RowH.cell' (Mem.at (xs:=[x0,x1]) M).1 ho) hk
end
end
noncomputable section
open Go.RowKit
def GrowT(e:TypeId)(sz:Nat)(rows:List (List AV))(v:AV)(T:List RowT):Prop:=
 (∀r∈rows,r.length=sz∧r.all AV.one=true)∧((rows=[]∧v=.nsl∧T=[])∨(rows≠[]∧∃c,v=.sl c 0 rows.length sz∧T=[(c,e,rows.flatten)]))
section
variable {P:Program}{S:List Nat}{h0 h h':AHeap}{xs ys rs T:List RowT}{b o n sz B:Nat}{e t u:TypeId}{l l' vs r:List AV}{v x:AV}{rows:List (List AV)}{Q:ARes→AHeap→Prop}
theorem GrowT.one(g:GrowT e sz rows v T):v.one=true∧AV.cells v=[v]:=by
 rcases g.2 with⟨rfl,rfl,_⟩|⟨_,c,rfl,_⟩<;>exact⟨rfl,rfl⟩
theorem Mem.frame(M:Mem S h0 h (xs++rs))(M':Mem (xs.map (·.1)) h h' ys):Mem S h0 h' (ys++rs):=by
 have hap:=M.apart;rw[List.map_append,List.nodup_append] at hap;obtain⟨a1,a2,a3⟩:=hap
 have hxs:∀b∈xs.map (·.1),b∈S∨h0.next≤b:=by
  intro b hb;obtain⟨x,hx,rfl⟩:=List.mem_map.1 hb;exact(M.row x (List.mem_append_left _ hx)).2.2
 have hle:=M.tch.1;have hle':=M'.tch.1;refine⟨fun x hx=>?_,?_,M.tch.trans' M'.tch hxs⟩
 ·rcases List.mem_append.1 hx with hx | hx
  ·obtain ⟨h1, h2, h3⟩ := M'.row x hx
   exact⟨h1,h2,h3.elim (fun h=>hxs _ h) (fun h=>.inr (by omega))⟩
  ·obtain ⟨h1, h2, h3⟩ := M.row x (List.mem_append_right _ hx)
   exact⟨h1.tch M'.tch h2 (fun hm=>a3 x.1 hm x.1 (List.mem_map_of_mem hx) rfl),by omega,h3⟩
 ·rw [List.map_append, List.nodup_append]
  refine⟨M'.apart,a2,fun a ha b hb hab=>?_⟩;subst hab;obtain⟨x,hx,rfl⟩:=List.mem_map.1 ha
  rcases(M'.row x hx).2.2 with h|h
  ·exact a3 _ h _ hb rfl
  ·obtain ⟨y, hy, hyx⟩ := List.mem_map.1 hb
   have:=(M.row y (List.mem_append_right _ hy)).2.1;omega
end
end
end Go.Proofs.Ytpnccmlajhhpdaa.Abs
