/- What snapPlays_proved stands on, part 5 of 10. -/
import Derived.Test.YtpnccmlajhhpdaaSP4
import Derived.OpenShut
import Derived.LaidMore
namespace Go.Proofs.Ytpnccmlajhhpdaa.Abs
noncomputable section
open Go.RowKit
inductive KI where
 |code (p:List Nat)
 |inLoop (p:List Nat)
 |inBlock (id:Nat)
 |ops (p:List Nat) (j:Nat)
structure MF where
 f:FuncId
 N:Nat
 a:AAct
 k:List KI
structure MS where
 top:MF
 st:List (Option Tmp×MF)
 h:AHeap
structure LF where
 f:FuncId
 N:Nat
 l:Fr
 ds:List (FuncId×List AV×List AV)
 k:List KI
inductive LO where
 |row (l:List AV) (e:TypeId)
 |map (es:List (AV×AV))
 |glob (l:List AV)
 |dfr
structure LS where
 top:LF
 st:List (Option Tmp×LF)
 next:Nat
 ex:List Nat
 obs:List (Nat×LO)
def LO.obj:LO→AObj
 | .row l e=>zb0 l e
 | .map es=>.map es
 | .glob l=>.glob (T.put .e 0 l)
 | .dfr=>.obj .dfr
def obTree:List (Nat×LO)→T AObj
 |[]=>.e
 |(b,o)::r=>(obTree r).set b o.obj
def LF.mf(x:LF):MF:=⟨x.f,x.N,⟨x.l.tree,x.ds⟩,x.k⟩
def LS.ms(x:LS):MS:=⟨x.top.mf,x.st.map fun y=>(y.1,y.2.mf),⟨x.next,x.ex,obTree x.obs⟩⟩
end
noncomputable section
open Go.RowKit
section
variable {P:Program}
def z2e1(P:Program)(fn:Func)(tmps:Array Value)(R:Ending→World→Prop):List Deferred→FrameMode→World→Prop
  |[],u,w=>Leaves P fn tmps R [] u w
  | d :: ds, u, w => u ≠ .run ∧
      ((∃ r w', d.target = .collected r ∧ (Instr.takeDeferred r).run P w = .ok [] w' ∧ z2e1 P fn tmps R ds u w') ∨
       (∃ fv cap f args, d.target = .fn fv cap ∧ (invoke d.target d.args).run P w = .ok (.enter f args) w ∧
        CallsD P f args u w fun
          | .returned _,u',w'=>z2e1 P fn tmps R ds (settle u') w'
          | .panicked chain,u',w'=>z2e1 P fn tmps R ds (raised u' chain) w'
          | .outgrown,_,w'=>R .outgrown w'))
def bodyPostX(P:Program)(fn:Func)(R:Ending→World→Prop):Exit→Act→World→Prop
 | .normal,a,w| .ret,a,w=>z2e1 P fn a.tmps R a.defers .returning w
 | .panic chain,a,w=>z2e1 P fn a.tmps R a.defers (.panicking chain) w
 | .outgrown,_,w=>R .outgrown w
 |_,_,_=>False
end
section
variable {P:Program}{w0:Base}{R0:Ending→World→Prop}{both:z4a}{lf:Nat}
def Bo(P:Program)(f:FuncId)(R:Ending→World→Prop):Exit→Act→World→Prop:=match P.funcs[f]? with
 |some fn=>bodyPostX P fn R
 |none=>fun _ _ _=>False
theorem Bo.ret{f:FuncId}{R:Ending→World→Prop}{a:Act}{w:World}(h:Bo P f R .normal a w):Bo P f R .ret a w:=by
 revert h
 unfold Bo
 cases P.funcs[f]? with
 |none=>exact id
 |some fn=>exact id
variable {c:Code}{Q:Exit→Act→World→Prop}{act:Act}{w:World}
end
end
noncomputable section
open Go.RowKit
end
noncomputable section
open Go.RowKit
end
noncomputable section
open Go.RowKit
end
noncomputable section
open Go.RowKit
end
noncomputable section
open Go.RowKit
end
noncomputable section
open Go.RowKit
section
variable {P:Program}{w0:Base}{m0:Map}{N:Nat}{l l':Fr}{ds:z8b}{h:AHeap}{Q:Exit→Act→World→Prop}{K:Act→World→Prop}{Y:z8a}{ops:Array Oper}{i:Nat}
theorem WL.a(d:Option Nat)(v:AV)(h':AHeap)(hk:WL P w0 m0 N ops (i+1) Q (l.put d v) ds h')(h1:z145 N ops i=some d:=by kernel_rfl)(h2:z1d ops l.get i=some true:=by kernel_rfl)(h3:zd1 P l.eval ops i h=some (.val v,h'):=by kernel_rfl):WL P w0 m0 N ops i Q l ds h:=WL.val h1 h2 h3 hk
theorem WL.b(d:Option Nat)(v:AV)(h':AHeap)(x:Y=some (.val v,h'))(hk:WL P w0 m0 N ops (i+1) Q (l.put d v) ds h')(h1:z145 N ops i=some d:=by kernel_rfl)(h2:z1d ops l.get i=some true:=by kernel_rfl)(h3:zd1 P l.eval ops i h=Y:=by kernel_rfl):WL P w0 m0 N ops i Q l ds h:=WL.val h1 h2 (h3.trans x) hk
theorem WL.e(h':AHeap)(x:Y=some (.skip,h'))(hk:WL P w0 m0 N ops (i+1) Q l ds h')(h1:z145 N ops i=some none:=by kernel_rfl)(h2:z1d ops l.get i=some true:=by kernel_rfl)(h3:zd1 P l.eval ops i h=Y:=by kernel_rfl):WL P w0 m0 N ops i Q l ds h:=WL.eff h1 h2 (h3.trans x) hk
theorem WL.o(d:Option Nat)(hk:WL P w0 m0 N ops (i+1) Q (l.put d (.tup [])) ds h)(h1:z145 N ops i=some d:=by kernel_rfl)(h2:z1d ops l.get i=some false:=by kernel_rfl):WL P w0 m0 N ops i Q l ds h:=WL.not h1 h2 hk
theorem WL.c{call:z10}(hc:ze2 P w0 call)(d:Option Nat){f:FuncId}{args:List AV}{v:AV}{h1 h':AHeap}(hcall:call f args h1=some (.ret v,h'))(hk:WL P w0 m0 N ops (i+1) Q (l.put d v) ds h')(h2:z145 N ops i=some d:=by kernel_rfl)(h3:z1d ops l.get i=some true:=by kernel_rfl)(h4:zd1 P l.eval ops i h=some (.call f args,h1):=by kernel_rfl):WL P w0 m0 N ops i Q l ds h:=WL.call hc h2 h3 h4 hcall hk
theorem WL.n(hk:Go w0 m0 N (Q .normal) l ds h)(hi:Nat.beq ops.size i=true:=by kernel_rfl):WL P w0 m0 N ops i Q l ds h:=WL.nil hi hk
theorem WD.a{call:z10}{plan:List Nat}{rs:List Rec}(k:Nat)(d:Option Nat)(v:AV)(h':AHeap)(hk:WD P w0 m0 N call ops plan (z472 k (z3aa P ops i l h) rs) K (l.put d v) ds h')(h1:z145 N ops i=some d:=by kernel_rfl)(h2:z1d ops l.get i=some true:=by kernel_rfl)(h3:zd1 P l.eval ops i h=some (.val v,h'):=by kernel_rfl)(h4:z2f3 P ops i=k:=by kernel_rfl)(h5:Nat.beq k 2=false:=by kernel_rfl)(h6:Nat.beq k 9=false:=by kernel_rfl):WD P w0 m0 N call ops (i::plan) rs K l ds h:=
 WD.val h1 h2 h3 h4 (fun e=>by subst e;cases h5) (fun e=>by subst e;cases h6) hk
theorem WD.b{call:z10}{plan:List Nat}{rs:List Rec}(k:Nat)(d:Option Nat)(v:AV)(h':AHeap)(x:Y=some (.val v,h'))(hk:WD P w0 m0 N call ops plan (z472 k (z3aa P ops i l h) rs) K (l.put d v) ds h')(h1:z145 N ops i=some d:=by kernel_rfl)(h2:z1d ops l.get i=some true:=by kernel_rfl)(h3:zd1 P l.eval ops i h=Y:=by kernel_rfl)(h4:z2f3 P ops i=k:=by kernel_rfl)(h5:Nat.beq k 2=false:=by kernel_rfl)(h6:Nat.beq k 9=false:=by kernel_rfl):WD P w0 m0 N call ops (i::plan) rs K l ds h:=
 WD.val h1 h2 (h3.trans x) h4 (fun e=>by subst e;cases h5) (fun e=>by subst e;cases h6) hk
theorem W.r{c:Code}(hk:WL P w0 m0 N (Code.ops c) 0 Q l ds h)(hc:Code.kind c=7:=by kernel_rfl):W P w0 m0 N c Q l ds h:=W.region hc hk
theorem W.s{c:Code}(hk:∀K:Exit→Act→World→Prop,(∀{ds:z8b} {l:Fr} {h:AHeap},W P w0 m0 N (y5 c) Q l ds h→Go w0 m0 N (K .normal) l ds h)→
  (∀{id:Nat} {ds:z8b} {l:Fr} {h:AHeap},Go w0 m0 N (Q (.exit id)) l ds h→Go w0 m0 N (K (.exit id)) l ds h)→(∀{ds:z8b} {l:Fr} {h:AHeap},Go w0 m0 N (Q .ret) l ds h→Go w0 m0 N (K .ret) l ds h)→
  (∀{ds:z8b} {l:Fr} {v:AV} {h:AHeap},Pan w0 m0 N Q l ds v h→Pan w0 m0 N K l ds v h)→W P w0 m0 N (y6 c) K l ds h)(hc:Code.kind c=1:=by kernel_rfl):W P w0 m0 N c Q l ds h:=W.seqK hc hk
theorem W.t{c:Code}(hk:W P w0 m0 N (y6 c) Q l ds h)(hc:Code.kind c=2:=by kernel_rfl)(hv:l.eval (y24 c)=some (.bool true):=by kernel_rfl):W P w0 m0 N c Q l ds h:=W.cond_true hc hv hk
theorem W.f{c:Code}(hk:W P w0 m0 N (y5 c) Q l ds h)(hc:Code.kind c=2:=by kernel_rfl)(hv:l.eval (y24 c)=some (.bool false):=by kernel_rfl):W P w0 m0 N c Q l ds h:=W.cond_false hc hv hk
end
theorem Fr.c{l l':Fr}{t:Nat}{v:AV}(k:l.sub l')(h:l.get t=some v:=by kernel_rfl):l.sub ((t,v)::l'):=yc h k
theorem Fr.n{l:Fr}:l.sub []:=y11 l
end
noncomputable section
open Go.RowKit
section
variable {P:Program}{w0:Base}{m0:Map}{N:Nat}{l l':Fr}{ds:z8b}{h:AHeap}{Q:Exit→Act→World→Prop}{K:Act→World→Prop}{Y:z8a}{ops:Array Oper}{i:Nat}{r:ARes×AHeap}{call:z10}
theorem oB(d:Nat){x:Bool}{k:Bool→R}(z:lett x k=some r)(hk:∀t,k t=some r→WL P w0 m0 N ops (i+1) Q (l.put (some d) (.bool t)) ds h)(h1:z145 N ops i=some (some d):=by kernel_rfl)(h2:z1d ops l.get i=some true:=by kernel_rfl)(h3:zd1 P l.eval ops i h=some (.val (.bool x),h):=by kernel_rfl):WL P w0 m0 N ops i Q l ds h:=WL.val h1 h2 h3 (hk x z)
theorem oI(d:Nat)(c:IntKind){x:Int}{k:Int→R}(z:lett x k=some r)(hk:∀t,k t=some r→WL P w0 m0 N ops (i+1) Q (l.put (some d) (.int c t)) ds h)(h1:z145 N ops i=some (some d):=by kernel_rfl)(h2:z1d ops l.get i=some true:=by kernel_rfl)(h3:zd1 P l.eval ops i h=some (.val (.int c x),h):=by kernel_rfl):WL P w0 m0 N ops i Q l ds h:=WL.val h1 h2 h3 (hk x z)
theorem oN(d:Nat){x:AHeap}{k:AHeap→R}(z:lett x k=some r)(hk:∀h',k h'=some r→WL P w0 m0 N ops (i+1) Q (l.put (some d) (z13 h)) ds h')(h1:z145 N ops i=some (some d):=by kernel_rfl)(h2:z1d ops l.get i=some true:=by kernel_rfl)(h3:zd1 P l.eval ops i h=some (.val (z13 h),x):=by kernel_rfl):WL P w0 m0 N ops i Q l ds h:=WL.val h1 h2 h3 (hk x z)
theorem oA(d:Nat)(v:AV)(hk:WL P w0 m0 N ops (i+1) Q (l.put (some d) v) ds h)(h1:z145 N ops i=some (some d):=by kernel_rfl)(h2:z1d ops l.get i=some true:=by kernel_rfl)(h3:zd1 P l.eval ops i h=some (.val v,h):=by kernel_rfl):WL P w0 m0 N ops i Q l ds h:=WL.val h1 h2 h3 hk
theorem oW(t:TypeId)(v:AV){n:Nat}{cs:List AV}{p:AV}{k:AHeap→R}(z:obind (z22 h n cs p) k=some r)(hk:∀h',k h'=some r→WL P w0 m0 N ops (i+1) Q l ds h')(a0:cs=v.cells:=by kernel_rfl)(a1:(P.info? t).isSome=true:=by kernel_rfl)(a2:P.cellsOf t=n:=by kernel_rfl)(h1:z145 N ops i=some none:=by kernel_rfl)(h2:z1d ops l.get i=some true:=by kernel_rfl)(h3:zd1 P l.eval ops i h=z252 P h t (some p) (some v):=by kernel_rfl):WL P w0 m0 N ops i Q l ds h:=by
 obtain⟨h',e,z1⟩:=z4 z;subst a0;exact WL.eff h1 h2 (h3.trans (z55 a1 a2 e)) (hk h' z1)
theorem oL(d t:Nat){x:AV}{k:AV→R}(z:obind (zc h x) k=some r)(hk:∀v,k v=some r→WL P w0 m0 N ops (i+1) Q (l.put (some d) v) ds h)(a1:z1ab P t=some false:=by kernel_rfl)(h1:z145 N ops i=some (some d):=by kernel_rfl)(h2:z1d ops l.get i=some true:=by kernel_rfl)(h3:zd1 P l.eval ops i h=za4 P h t (some x):=by kernel_rfl):WL P w0 m0 N ops i Q l ds h:=by
 obtain⟨v,e,z1⟩:=z4 z;exact WL.val h1 h2 (h3.trans (z14 a1 e)) (hk v z1)
theorem oLi(d t:Nat){c:IntKind}{x:AV}{k:Int→R}(z:(obind (zc h x) fun v=>obind (z17 c v) k)=some r)(hk:∀v,k v=some r→WL P w0 m0 N ops (i+1) Q (l.put (some d) (.int c v)) ds h)(a1:z1ab P t=some false:=by kernel_rfl)(h1:z145 N ops i=some (some d):=by kernel_rfl)(h2:z1d ops l.get i=some true:=by kernel_rfl)(h3:zd1 P l.eval ops i h=za4 P h t (some x):=by kernel_rfl):WL P w0 m0 N ops i Q l ds h:=by
 obtain⟨v,e,z1⟩:=z4 z;obtain⟨n,c1,z2⟩:=z4 z1;have c2:=z1a c1;subst c2;exact WL.val h1 h2 (h3.trans (z14 a1 e)) (hk n z2)
theorem oLb(d t:Nat){x:AV}{k:Bool→R}(z:(obind (zc h x) fun v=>obind (z33 v) k)=some r)(hk:∀v,k v=some r→WL P w0 m0 N ops (i+1) Q (l.put (some d) (.bool v)) ds h)(a1:z1ab P t=some false:=by kernel_rfl)(h1:z145 N ops i=some (some d):=by kernel_rfl)(h2:z1d ops l.get i=some true:=by kernel_rfl)(h3:zd1 P l.eval ops i h=za4 P h t (some x):=by kernel_rfl):WL P w0 m0 N ops i Q l ds h:=by
 obtain⟨v,e,z1⟩:=z4 z;obtain⟨n,c1,z2⟩:=z4 z1;have c2:=z24 c1;subst c2;exact WL.val h1 h2 (h3.trans (z14 a1 e)) (hk n z2)
theorem oLs(d t:Nat){x:AV}{k:Bytes→R}(z:(obind (zc h x) fun v=>obind (z20 v) k)=some r)(hk:∀v,k v=some r→WL P w0 m0 N ops (i+1) Q (l.put (some d) (z5 v)) ds h)(a1:z1ab P t=some false:=by kernel_rfl)(h1:z145 N ops i=some (some d):=by kernel_rfl)(h2:z1d ops l.get i=some true:=by kernel_rfl)(h3:zd1 P l.eval ops i h=za4 P h t (some x):=by kernel_rfl):WL P w0 m0 N ops i Q l ds h:=by
 obtain⟨v,e,z1⟩:=z4 z;obtain⟨n,c1,z2⟩:=z4 z1;have c2:=z19 c1;subst c2;exact WL.val h1 h2 (h3.trans (z14 a1 e)) (hk n z2)
theorem oR(d t:Nat){n:Nat}{x:AV}{k:List AV→R}(z:obind (z2c h n x) k=some r)(hk:∀v,k v=some r→WL P w0 m0 N ops (i+1) Q (l.put (some d) (.agg v)) ds h)(a1:z1ab P t=some true:=by kernel_rfl)(a2:P.cellsOf t=n:=by kernel_rfl)(h1:z145 N ops i=some (some d):=by kernel_rfl)(h2:z1d ops l.get i=some true:=by kernel_rfl)(h3:zd1 P l.eval ops i h=za4 P h t (some x):=by kernel_rfl):WL P w0 m0 N ops i Q l ds h:=by
 obtain⟨v,e,z1⟩:=z4 z;exact WL.val h1 h2 (h3.trans (z64 a1 a2 e)) (hk v z1)
theorem oF(d s f:Nat){off:Nat}{x:AV}{k:AV→R}(z:obind (z27 off x) k=some r)(hk:∀v,k v=some r→WL P w0 m0 N ops (i+1) Q (l.put (some d) v) ds h)(a1:(match P.underlying s with
  |some (.struct fs)=>match fs[f]? with
   |some g=>Nat.blt 0 (P.cellsOf g.type)&&Nat.beq g.offset off
   |none=>false
  |_=>false)=true:=by kernel_rfl)(h1:z145 N ops i=some (some d):=by kernel_rfl)(h2:z1d ops l.get i=some true:=by kernel_rfl)(h3:zd1 P l.eval ops i h=z6d P h s f (some x):=by kernel_rfl):WL P w0 m0 N ops i Q l ds h:=by
 obtain⟨v,e,z1⟩:=z4 z;exact WL.val h1 h2 (h3.trans (z15 a1 e)) (hk v z1)
theorem oX(d t:Nat)(c:IntKind){s:Bytes}{j:Int}{k:Int→R}(z:obind (z3c1 s j) k=some r)(hk:∀v,k v=some r→WL P w0 m0 N ops (i+1) Q (l.put (some d) (.int .u8 v)) ds h)(a1:P.underlying t=some .string:=by kernel_rfl)(h1:z145 N ops i=some (some d):=by kernel_rfl)(h2:z1d ops l.get i=some true:=by kernel_rfl)(h3:zd1 P l.eval ops i h=z160 P h t (some (z5 s)) (some (.int c j)):=by kernel_rfl):WL P w0 m0 N ops i Q l ds h:=by
 obtain⟨v,e,z1⟩:=z4 z;exact WL.val h1 h2 (h3.trans (z17f a1 e)) (hk v z1)
theorem oP(d t e':Nat)(c:IntKind){sz:Nat}{x:AV}{j:Int}{k:AV→R}(z:obind (z150 sz x j) k=some r)(hk:∀v,k v=some r→WL P w0 m0 N ops (i+1) Q (l.put (some d) v) ds h)(a1:elemOf P t=some e':=by kernel_rfl)(a2:(P.info? e').isSome=true:=by kernel_rfl)(a3:P.cellsOf e'=sz:=by kernel_rfl)(h1:z145 N ops i=some (some d):=by kernel_rfl)(h2:z1d ops l.get i=some true:=by kernel_rfl)(h3:zd1 P l.eval ops i h=z4c P h t (some x) (some (.int c j)):=by kernel_rfl):WL P w0 m0 N ops i Q l ds h:=by
 obtain⟨v,e,z1⟩:=z4 z;exact WL.val h1 h2 (h3.trans (z180 a1 a2 a3 e)) (hk v z1)
theorem oQ(d t e':Nat)(c:IntKind){n sz:Nat}{x:AV}{j:Int}{k:AV→R}(z:obind (z169 n sz x j) k=some r)(hk:∀v,k v=some r→WL P w0 m0 N ops (i+1) Q (l.put (some d) v) ds h)(a1:P.underlying t=some (.array n e'):=by kernel_rfl)(a2:(P.info? e').isSome=true:=by kernel_rfl)(a3:P.cellsOf e'=sz:=by kernel_rfl)(h1:z145 N ops i=some (some d):=by kernel_rfl)(h2:z1d ops l.get i=some true:=by kernel_rfl)(h3:zd1 P l.eval ops i h=z4c P h t (some x) (some (.int c j)):=by kernel_rfl):WL P w0 m0 N ops i Q l ds h:=by
 obtain⟨v,e,z1⟩:=z4 z;exact WL.val h1 h2 (h3.trans (z132 a1 a2 a3 e)) (hk v z1)
theorem oC0(d:Nat){x:AV}{k:AV→R}(z:obind (z53 x) k=some r)(hk:∀v,k v=some r→WL P w0 m0 N ops (i+1) Q (l.put (some d) v) ds h)(h1:z145 N ops i=some (some d):=by kernel_rfl)(h2:z1d ops l.get i=some true:=by kernel_rfl)(h3:zd1 P l.eval ops i h=z3b2 h (some x):=by kernel_rfl):WL P w0 m0 N ops i Q l ds h:=by
 obtain⟨v,e,z1⟩:=z4 z;exact WL.val h1 h2 (h3.trans (z2b e)) (hk v z1)
theorem oM(d t e':Nat){x:AV}{k:Int→R}(z:obind (z12d x) k=some r)(hk:∀v,k v=some r→WL P w0 m0 N ops (i+1) Q (l.put (some d) (.int .i64 v)) ds h)(a1:P.underlying t=some (.slice e'):=by kernel_rfl)(h1:z145 N ops i=some (some d):=by kernel_rfl)(h2:z1d ops l.get i=some true:=by kernel_rfl)(h3:zd1 P l.eval ops i h=z21b P h t x:=by kernel_rfl):WL P w0 m0 N ops i Q l ds h:=by
 obtain⟨v,e,z1⟩:=z4 z;exact WL.val h1 h2 (h3.trans (z1b7 a1 e)) (hk v z1)
theorem oE(d:Nat){j:Nat}{x:AV}{k:AV→R}(z:obind (z166 j x) k=some r)(hk:∀v,k v=some r→WL P w0 m0 N ops (i+1) Q (l.put (some d) v) ds h)(h1:z145 N ops i=some (some d):=by kernel_rfl)(h2:z1d ops l.get i=some true:=by kernel_rfl)(h3:zd1 P l.eval ops i h=z95 h j (some x):=by kernel_rfl):WL P w0 m0 N ops i Q l ds h:=by
 obtain⟨v,e,z1⟩:=z4 z;exact WL.val h1 h2 (h3.trans (zc3 e)) (hk v z1)
theorem oEi(d:Nat){c:IntKind}{j:Nat}{x:AV}{k:Int→R}(z:(obind (z166 j x) fun v=>obind (z17 c v) k)=some r)(hk:∀v,k v=some r→WL P w0 m0 N ops (i+1) Q (l.put (some d) (.int c v)) ds h)(h1:z145 N ops i=some (some d):=by kernel_rfl)(h2:z1d ops l.get i=some true:=by kernel_rfl)(h3:zd1 P l.eval ops i h=z95 h j (some x):=by kernel_rfl):WL P w0 m0 N ops i Q l ds h:=by
 obtain⟨v,e,z1⟩:=z4 z;obtain⟨n,c1,z2⟩:=z4 z1;have c2:=z1a c1;subst c2;exact WL.val h1 h2 (h3.trans (zc3 e)) (hk n z2)
theorem oEb(d:Nat){j:Nat}{x:AV}{k:Bool→R}(z:(obind (z166 j x) fun v=>obind (z33 v) k)=some r)(hk:∀v,k v=some r→WL P w0 m0 N ops (i+1) Q (l.put (some d) (.bool v)) ds h)(h1:z145 N ops i=some (some d):=by kernel_rfl)(h2:z1d ops l.get i=some true:=by kernel_rfl)(h3:zd1 P l.eval ops i h=z95 h j (some x):=by kernel_rfl):WL P w0 m0 N ops i Q l ds h:=by
 obtain⟨v,e,z1⟩:=z4 z;obtain⟨n,c1,z2⟩:=z4 z1;have c2:=z24 c1;subst c2;exact WL.val h1 h2 (h3.trans (zc3 e)) (hk n z2)
theorem oEs(d:Nat){j:Nat}{x:AV}{k:Bytes→R}(z:(obind (z166 j x) fun v=>obind (z20 v) k)=some r)(hk:∀v,k v=some r→WL P w0 m0 N ops (i+1) Q (l.put (some d) (z5 v)) ds h)(h1:z145 N ops i=some (some d):=by kernel_rfl)(h2:z1d ops l.get i=some true:=by kernel_rfl)(h3:zd1 P l.eval ops i h=z95 h j (some x):=by kernel_rfl):WL P w0 m0 N ops i Q l ds h:=by
 obtain⟨v,e,z1⟩:=z4 z;obtain⟨n,c1,z2⟩:=z4 z1;have c2:=z19 c1;subst c2;exact WL.val h1 h2 (h3.trans (zc3 e)) (hk n z2)
theorem oEa(d:Nat){j:Nat}{x:AV}{k:List AV→R}(z:(obind (z166 j x) fun v=>obind (z146 v) k)=some r)(hk:∀v,k v=some r→WL P w0 m0 N ops (i+1) Q (l.put (some d) (.agg v)) ds h)(h1:z145 N ops i=some (some d):=by kernel_rfl)(h2:z1d ops l.get i=some true:=by kernel_rfl)(h3:zd1 P l.eval ops i h=z95 h j (some x):=by kernel_rfl):WL P w0 m0 N ops i Q l ds h:=by
 obtain⟨v,e,z1⟩:=z4 z;obtain⟨n,c1,z2⟩:=z4 z1;have c2:=zcb c1;subst c2;exact WL.val h1 h2 (h3.trans (zc3 e)) (hk n z2)
theorem oC(hc:SaysAll P call)(d:Option Nat){f:FuncId}{args:List AV}{h1:AHeap}{k:AV→AHeap→R}(z:callN (call f args h1) k=some r)(hk:∀v h',k v h'=some r→WL P w0 m0 N ops (i+1) Q (l.put d v) ds h')(b1:z145 N ops i=some d:=by kernel_rfl)(b2:z1d ops l.get i=some true:=by kernel_rfl)(b3:zd1 P l.eval ops i h=some (.call f args,h1):=by kernel_rfl):WL P w0 m0 N ops i Q l ds h:=by
 obtain⟨v,h',e,z1⟩:=z18 z;exact WL.call (hc.ok w0) b1 b2 b3 e (hk v h' z1)
theorem oCi(hc:SaysAll P call)(d:Nat){c:IntKind}{f:FuncId}{args:List AV}{h1:AHeap}{k:Int→AHeap→R}(z:(callN (call f args h1) fun v h'=>obind (z17 c v) fun n=>k n h')=some r)(hk:∀v h',k v h'=some r→WL P w0 m0 N ops (i+1) Q (l.put (some d) (.int c v)) ds h')(b1:z145 N ops i=some (some d):=by kernel_rfl)(b2:z1d ops l.get i=some true:=by kernel_rfl)(b3:zd1 P l.eval ops i h=some (.call f args,h1):=by kernel_rfl):WL P w0 m0 N ops i Q l ds h:=by
 obtain⟨v,h',e,z1⟩:=z18 z;obtain⟨n,c1,z2⟩:=z4 z1;have c2:=z1a c1;subst c2;exact WL.call (hc.ok w0) b1 b2 b3 e (hk n h' z2)
theorem oCb(hc:SaysAll P call)(d:Nat){f:FuncId}{args:List AV}{h1:AHeap}{k:Bool→AHeap→R}(z:(callN (call f args h1) fun v h'=>obind (z33 v) fun n=>k n h')=some r)(hk:∀v h',k v h'=some r→WL P w0 m0 N ops (i+1) Q (l.put (some d) (.bool v)) ds h')(b1:z145 N ops i=some (some d):=by kernel_rfl)(b2:z1d ops l.get i=some true:=by kernel_rfl)(b3:zd1 P l.eval ops i h=some (.call f args,h1):=by kernel_rfl):WL P w0 m0 N ops i Q l ds h:=by
 obtain⟨v,h',e,z1⟩:=z18 z;obtain⟨n,c1,z2⟩:=z4 z1;have c2:=z24 c1;subst c2;exact WL.call (hc.ok w0) b1 b2 b3 e (hk n h' z2)
theorem oCs(hc:SaysAll P call)(d:Nat){f:FuncId}{args:List AV}{h1:AHeap}{k:Bytes→AHeap→R}(z:(callN (call f args h1) fun v h'=>obind (z20 v) fun n=>k n h')=some r)(hk:∀v h',k v h'=some r→WL P w0 m0 N ops (i+1) Q (l.put (some d) (z5 v)) ds h')(b1:z145 N ops i=some (some d):=by kernel_rfl)(b2:z1d ops l.get i=some true:=by kernel_rfl)(b3:zd1 P l.eval ops i h=some (.call f args,h1):=by kernel_rfl):WL P w0 m0 N ops i Q l ds h:=by
 obtain⟨v,h',e,z1⟩:=z18 z;obtain⟨n,c1,z2⟩:=z4 z1;have c2:=z19 c1;subst c2;exact WL.call (hc.ok w0) b1 b2 b3 e (hk n h' z2)
theorem oCa(hc:SaysAll P call)(d:Nat){f:FuncId}{args:List AV}{h1:AHeap}{k:List AV→AHeap→R}(z:(callN (call f args h1) fun v h'=>obind (z146 v) fun n=>k n h')=some r)(hk:∀v h',k v h'=some r→WL P w0 m0 N ops (i+1) Q (l.put (some d) (.agg v)) ds h')(b1:z145 N ops i=some (some d):=by kernel_rfl)(b2:z1d ops l.get i=some true:=by kernel_rfl)(b3:zd1 P l.eval ops i h=some (.call f args,h1):=by kernel_rfl):WL P w0 m0 N ops i Q l ds h:=by
 obtain⟨v,h',e,z1⟩:=z18 z;obtain⟨n,c1,z2⟩:=z4 z1;have c2:=zcb c1;subst c2;exact WL.call (hc.ok w0) b1 b2 b3 e (hk n h' z2)
theorem oK(d:Nat){x:z8a}{k:AV→AHeap→R}(z:outK x k=some r)(hk:∀v h',k v h'=some r→WL P w0 m0 N ops (i+1) Q (l.put (some d) v) ds h')(b1:z145 N ops i=some (some d):=by kernel_rfl)(b2:z1d ops l.get i=some true:=by kernel_rfl)(b3:zd1 P l.eval ops i h=x:=by kernel_rfl):WL P w0 m0 N ops i Q l ds h:=by
 obtain⟨v,h',e,z1⟩:=z1c z;exact WL.val b1 b2 (b3.trans e) (hk v h' z1)
theorem oT{c:Code}{a b:R}(z:ifB true a b=some r)(hk:a=some r→W P w0 m0 N (y6 c) Q l ds h)(hc:Code.kind c=2:=by kernel_rfl)(hv:l.eval (y24 c)=some (.bool true):=by kernel_rfl):W P w0 m0 N c Q l ds h:=W.cond_true hc hv (hk z)
theorem oU{c:Code}{a b:R}(z:ifB false a b=some r)(hk:b=some r→W P w0 m0 N (y5 c) Q l ds h)(hc:Code.kind c=2:=by kernel_rfl)(hv:l.eval (y24 c)=some (.bool false):=by kernel_rfl):W P w0 m0 N c Q l ds h:=W.cond_false hc hv (hk z)
theorem oG{c:Code}(hk:∀{K:Exit→Act→World→Prop},(∀{ds:z8b} {l:Fr} {h:AHeap},W P w0 m0 N (y5 c) Q l ds h→Go w0 m0 N (K .normal) l ds h)→W P w0 m0 N (y6 c) K l ds h)(hc:Code.kind c=1:=by kernel_rfl):W P w0 m0 N c Q l ds h:=W.seqK hc fun _ n _ _ _=>hk n
theorem oH{c:Code}(hk:∀{K:Exit→Act→World→Prop},(∀{ds:z8b} {l:Fr} {h:AHeap},W P w0 m0 N (y5 c) Q l ds h→Go w0 m0 N (K .normal) l ds h)→(∀{ds:z8b} {l:Fr} {h:AHeap},Go w0 m0 N (Q .ret) l ds h→Go w0 m0 N (K .ret) l ds h)→W P w0 m0 N (y6 c) K l ds h)(hc:Code.kind c=1:=by kernel_rfl):W P w0 m0 N c Q l ds h:=W.seqK hc fun _ n _ q _=>hk n q
theorem oJ{c:Code}(hk:∀{K:Exit→Act→World→Prop},(∀{ds:z8b} {l:Fr} {h:AHeap},W P w0 m0 N (y5 c) Q l ds h→Go w0 m0 N (K .normal) l ds h)→(∀{ds:z8b} {l:Fr} {v:AV} {h:AHeap},Pan w0 m0 N Q l ds v h→Pan w0 m0 N K l ds v h)→W P w0 m0 N (y6 c) K l ds h)(hc:Code.kind c=1:=by kernel_rfl):W P w0 m0 N c Q l ds h:=W.seqK hc fun _ n _ _ p=>hk n p
theorem oY{c:Code}(hk:Go w0 m0 N (Q .ret) l ds h)(hc:Code.kind c=6:=by kernel_rfl):W P w0 m0 N c Q l ds h:=W.ret hc hk
theorem oZ{c:Code}(hk:Go w0 m0 N (Q .normal) l ds h)(hc:Code.kind c=0:=by kernel_rfl):W P w0 m0 N c Q l ds h:=W.skip hc hk
theorem rT{g:Nat→Option AV}{t:Nat}{v:AV}{rs:List ResultVar}{vs:List AV}(k:z119 P g h rs=some vs)(e:g t=some v:=by kernel_rfl):z119 P g h (.tmp t::rs)=some (v::vs):=res_tmp e k
theorem rY{g:Nat→Option AV}{t ty n:Nat}{p:AV}{v:List AV}{rs:List ResultVar}{vs:List AV}(e2:z2c h n p=some v)(k:z119 P g h rs=some vs)(e:g t=some p:=by kernel_rfl)(ha:z1ab P ty=some true:=by kernel_rfl)(hn:P.cellsOf ty=n:=by kernel_rfl):z119 P g h (.cell t ty::rs)=some (.agg v::vs):=z288 e (z64 ha hn e2) k
theorem rC{g:Nat→Option AV}{t ty:Nat}{p v:AV}{rs:List ResultVar}{vs:List AV}(e2:zc h p=some v)(k:z119 P g h rs=some vs)(e:g t=some p:=by kernel_rfl)(ha:z1ab P ty=some false:=by kernel_rfl):z119 P g h (.cell t ty::rs)=some (v::vs):=z288 e (z14 ha e2) k
theorem lZ{fn:Func}{v:AV}{rR:ARes}{hR:AHeap}(z:some (ARes.ret v,h)=some (rR,hR))(rs:List ResultVar)(vs:List AV)(hv:z119 P l.get h rs=some vs)(hrs:fn.results.toList=rs:=by kernel_rfl)(hr:z3a6 h (some vs)=some (.ret v,h):=by kernel_rfl):Go w0 m0 N (Fin P fn w0 m0 rR hR .ret) l [] h:=by
 obtain⟨e1,e2⟩:=z24c z;subst e1;subst e2;exact leave_of hrs hv hr
theorem lY{fn:Func}{v:AV}{rR:ARes}{hR:AHeap}(z:some (ARes.ret v,h)=some (rR,hR))(rs:List ResultVar)(vs:List AV)(hv:z119 P l.get h rs=some vs)(hrs:fn.results.toList=rs:=by kernel_rfl)(hr:z3a6 h (some vs)=some (.ret v,h):=by kernel_rfl):Go w0 m0 N (Fin P fn w0 m0 rR hR .normal) l [] h:=by
 obtain⟨e1,e2⟩:=z24c z;subst e1;subst e2;exact leaveN_of hrs hv hr
theorem oD{plan:List Nat}{rs:List Rec}(k:Nat)(d:Option Nat)(hk:WD P w0 m0 N call ops plan rs K (l.put d (.tup [])) ds h)(h1:z145 N ops i=some d:=by kernel_rfl)(h2:z1d ops l.get i=some false:=by kernel_rfl)(h4:z2f3 P ops i=k:=by kernel_rfl)(h5:Nat.beq k 2=false:=by kernel_rfl)(h6:Nat.beq k 9=false:=by kernel_rfl):WD P w0 m0 N call ops (i::plan) rs K l ds h:=WD.not h1 h2 h4 (fun e=>by subst e;cases h5) (fun e=>by subst e;cases h6) hk
theorem z391{l:Fr}:∀{l':Fr},l'.map (fun p=>l.get p.1)=l'.map (fun p=>some p.2)→l.sub l'
 |[],_=>y11 _
 |(t,v)::l',h=>by
  simp only[List.map_cons,List.cons.injEq] at h;exact yc h.1 (z391 h.2)
theorem oV(l':Fr)(hk:Go w0 m0 N (Q .normal) l' ds h)(hs:l'.map (fun p=>l.get p.1)=l'.map (fun p=>some p.2):=by kernel_rfl)(hi:Nat.beq ops.size i=true:=by kernel_rfl):WL P w0 m0 N ops i Q l ds h:=WL.nil hi (Go.weaken (z391 hs) hk)
theorem gW(l':Fr)(hk:Go w0 m0 N K l' ds h)(hs:l'.map (fun p=>l.get p.1)=l'.map (fun p=>some p.2):=by kernel_rfl):Go w0 m0 N K l ds h:=Go.weaken (z391 hs) hk
theorem wW{c:Code}(l':Fr)(hk:W P w0 m0 N c Q l' ds h)(hs:l'.map (fun p=>l.get p.1)=l'.map (fun p=>some p.2):=by kernel_rfl):W P w0 m0 N c Q l ds h:=W.weaken (z391 hs) hk
theorem lW(l':Fr)(hk:WL P w0 m0 N ops i Q l' ds h)(hs:l'.map (fun p=>l.get p.1)=l'.map (fun p=>some p.2):=by kernel_rfl):WL P w0 m0 N ops i Q l ds h:=WL.weaken (z391 hs) hk
theorem Pf{v:AV}{h':AHeap}{fn:Func}{rR:ARes}{hR:AHeap}(q:(rR,hR)=(ARes.panic v,h')):Pan w0 m0 N (Fin P fn w0 m0 rR hR) l [] v h':=by
 cases q
 exact y3f
theorem oCK(hc:SaysAll P call)(d:Option Nat){f:FuncId}{args:List AV}{h1:AHeap}{k:AV→AHeap→R}(z:callK (call f args h1) k=some r)(hp:∀{v:AV} {h':AHeap},r=(.panic v,h')→Pan w0 m0 N Q l ds v h')(hk:∀v h',k v h'=some r→WL P w0 m0 N ops (i+1) Q (l.put d v) ds h')(b1:z145 N ops i=some d:=by kernel_rfl)(b2:z1d ops l.get i=some true:=by kernel_rfl)(b3:zd1 P l.eval ops i h=some (.call f args,h1):=by kernel_rfl):WL P w0 m0 N ops i Q l ds h:=by
 rcases z48d z with⟨v,h',e,z1⟩|⟨v,h',e,q⟩
 ·exact WL.call (hc.ok w0) b1 b2 b3 e (hk v h' z1)
 ·exact y43 (hc.ok w0) b1 b2 b3 e (hp q)
theorem sO{f:FuncId}{fn:Func}{args:List AV}{rR:ARes}{hR:AHeap}(hf:P.funcs[f]? =some fn)(hw:∀w0 m0,W P w0 m0 fn.ntmps (z2a fn) (Fin P fn w0 m0 rR hR) (z1e8 0 args) [] h)(hb:fn.body=some (z2a fn):=by kernel_rfl)(hlen:Nat.ble args.length fn.ntmps=true:=by kernel_rfl):Says P f args h rR hR:=says_of hf hb hlen hw
end
structure Dec (α:Type) where
 dec:AV→Option α
 enc:α→AV
 ok:∀{x:AV} {a:α},dec x=some a→x=enc a
 eq:∀a:α,dec (enc a)=some a
def Di(k:IntKind):Dec Int:=⟨z17 k,.int k,z1a,z7 k⟩
def Ds:Dec Bytes:=⟨z20,z5,z19,ze⟩
def Da:Dec (List AV):=⟨z146,.agg,zcb,z40⟩
def Dv:Dec AV:=⟨some,fun x=>x,fun h=>by cases h;rfl,fun _=>rfl⟩
section
variable {α β γ δ ε ζ:Type}{P:Program}{id:FuncId}{h:AHeap}
def fn0(F:AHeap→R):FnT:=fun args h=>match args with
 |[]=>F h
 |_=>none
theorem z446(F:AHeap→R)(h:AHeap):fn0 F [] h=F h:=rfl
theorem z227{F:AHeap→R}(k:∀{h r h'},F h=some (r,h')→Says P id [] h r h'):z376 P id (fn0 F):=by
 intro args h r h2 e;unfold fn0 at e
 split at e
 ·exact k e
 ·cases e
def fn1(d0:Dec α)(F:α→AHeap→R):FnT:=fun args h=>match args with
 |[x0]=>obind (d0.dec x0) fun a0=>F a0 h
 |_=>none
theorem z54(d0:Dec α)(F:α→AHeap→R)(a0:α)(h:AHeap):fn1 d0 F [d0.enc a0] h=F a0 h:=by
 unfold fn1;dsimp only;rw[d0.eq,z5d]
theorem z1e(d0:Dec α){F:α→AHeap→R}(k:∀{a0} {h r h'},F a0 h=some (r,h')→Says P id [d0.enc a0] h r h'):z376 P id (fn1 d0 F):=by
 intro args h r h2 e;unfold fn1 at e
 split at e
 ·replace e := z4 e; obtain ⟨a0, c0, e⟩ := e; have c0 := d0.ok c0; subst c0
  exact k e
 ·cases e
def fn2(d0:Dec α)(d1:Dec β)(F:α→β→AHeap→R):FnT:=fun args h=>match args with
 |[x0,x1]=>obind (d0.dec x0) fun a0=>obind (d1.dec x1) fun a1=>F a0 a1 h
 |_=>none
theorem z87(d0:Dec α)(d1:Dec β)(F:α→β→AHeap→R)(a0:α)(a1:β)(h:AHeap):fn2 d0 d1 F [d0.enc a0,d1.enc a1] h=F a0 a1 h:=by
 unfold fn2;dsimp only;rw[d0.eq,z5d,d1.eq,z5d]
theorem z30(d0:Dec α)(d1:Dec β){F:α→β→AHeap→R}(k:∀{a0 a1} {h r h'},F a0 a1 h=some (r,h')→Says P id [d0.enc a0,d1.enc a1] h r h'):z376 P id (fn2 d0 d1 F):=by
 intro args h r h2 e;unfold fn2 at e
 split at e
 ·replace e := z4 e; obtain ⟨a0, c0, e⟩ := e; have c0 := d0.ok c0; subst c0
  replace e:=z4 e;obtain⟨a1,c1,e⟩:=e;have c1:=d1.ok c1;subst c1
  exact k e
 ·cases e
def fn3(d0:Dec α)(d1:Dec β)(d2:Dec γ)(F:α→β→γ→AHeap→R):FnT:=fun args h=>match args with
 |[x0,x1,x2]=>obind (d0.dec x0) fun a0=>obind (d1.dec x1) fun a1=>obind (d2.dec x2) fun a2=>F a0 a1 a2 h
 |_=>none
theorem z1bb(d0:Dec α)(d1:Dec β)(d2:Dec γ)(F:α→β→γ→AHeap→R)(a0:α)(a1:β)(a2:γ)(h:AHeap):fn3 d0 d1 d2 F [d0.enc a0,d1.enc a1,d2.enc a2] h=F a0 a1 a2 h:=by
 unfold fn3;dsimp only;rw[d0.eq,z5d,d1.eq,z5d,d2.eq,z5d]
theorem zc2(d0:Dec α)(d1:Dec β)(d2:Dec γ){F:α→β→γ→AHeap→R}(k:∀{a0 a1 a2} {h r h'},F a0 a1 a2 h=some (r,h')→Says P id [d0.enc a0,d1.enc a1,d2.enc a2] h r h'):z376 P id (fn3 d0 d1 d2 F):=by
 intro args h r h2 e;unfold fn3 at e
 split at e
 ·replace e := z4 e; obtain ⟨a0, c0, e⟩ := e; have c0 := d0.ok c0; subst c0
  replace e:=z4 e;obtain⟨a1,c1,e⟩:=e;have c1:=d1.ok c1;subst c1
  replace e:=z4 e;obtain⟨a2,c2,e⟩:=e;have c2:=d2.ok c2;subst c2
  exact k e
 ·cases e
end
end
end Go.Proofs.Ytpnccmlajhhpdaa.Abs
