/- What matchEarlyUpto_proved stands on, part 5 of 11. -/
import Derived.Test.YtcahhjjnihipdaaDoorCe4
import Derived.OpenShut
import Derived.LaidMore
namespace Go.Proofs.YtcahhjjnihipdaaDoor.Abs
noncomputable section
open Go.RowKit
inductive KI where
 |code (p:List Nat)
 |inLoop (p:List Nat)
 |inBlock (id:Nat)
 |ops (p:List Nat) (j:Nat)
def childAt(i:Nat):Code→Code
 | .seq x y=>match i with
  |0=>x
  |_=>y
 | .cond _ x y=>match i with
  |0=>x
  |_=>y
 | .block _ x=>x
 | .loop x=>x
 |_=>.skip
def z12c(c:Code):List Nat→Code
 |[]=>c
 |i::p=>childAt i (z12c c p)
def z256:Code→Array Oper
 | .region _ ops false=>ops
 |_=> #[]
def z136(P:Program)(f:FuncId):Code:=match P.funcs[f]? with
 |some fn=>fn.body.getD .skip
 |none=>.skip
structure MF where
 f:FuncId
 N:Nat
 a:AAct
 k:List KI
structure MS where
 top:MF
 st:List (Option Tmp×MF)
 h:AHeap
inductive MI where
 |atom
 |opn
 |ops (n:Nat)
 |call
 |dfr
 |fall
 |pop
 |pass
 |rounds (n:Nat)
def exitK(id:Nat):List KI→Option (List KI)
 |[]=>none
 | .inBlock i::k=>match Nat.beq i id with
  |true=>some k
  |false=>exitK id k
 |_::k=>exitK id k
def contE(k:List KI):AExit→Option (List KI)
 | .normal=>some k
 | .exit id=>exitK id k
 | .ret=>some []
 |_=>none
def goE(S:MS)(k:List KI):zc8→Option MS
 |some (e,a,h)=>match contE k e with
  |some k'=>some ⟨⟨S.top.f,S.top.N,a,k'⟩,S.st,h⟩
  |none=>none
 |none=>none
def opnM(S:MS)(p:List Nat)(k:List KI):Code→Option MS
 | .skip=>some {S with top:={S.top with k:=k}}
 | .seq _ _=>some {S with top:={S.top with k:=.code (0::p):: .code (1::p)::k}}
 | .cond c _ _=>match S.top.a.eval c with
  |some (.bool true)=>some {S with top:={S.top with k:=.code (0::p)::k}}
  |some (.bool false)=>some {S with top:={S.top with k:=.code (1::p)::k}}
  |_=>none
 | .block id _=>some {S with top:={S.top with k:=.code (0::p):: .inBlock id::k}}
 | .loop _=>some {S with top:={S.top with k:=.code (0::p):: .inLoop (0::p)::k}}
 | .region _ ops false=>match z2b0 S.top.N ops.toList with
  |true=>some {S with top:={S.top with k:=.ops p 0::k}}
  |false=>none
 | .exit id=>match exitK id k with
  |some k'=>some {S with top:={S.top with k:=k'}}
  |none=>none
 | .ret=>some {S with top:={S.top with k:=[]}}
 |_=>none
def callM(P:Program)(S:MS)(p:List Nat)(j:Nat)(k:List KI)(o:Oper):za8→Option MS
 |some (.call g args,h)=>match P.funcs[g]? with
  |some fn=>match fn.body with
   |some _=>match Nat.ble args.length fn.ntmps&&z13c S.top.N o with
    |true=>some ⟨⟨g,fn.ntmps,⟨T.put .e 0 args,[]⟩,[.code []]⟩,(o.dst,⟨S.top.f,S.top.N,S.top.a,.ops p (j+1)::k⟩)::S.st,h⟩
    |false=>none
   |none=>none
  |none=>none
 |_=>none
def dsM(P:Program)(call:zc)(lf:Nat)(fn:Func)(a:AAct):List (FuncId×List AV×List AV)→Option AV→AHeap→Option (ARes×AHeap)
 |[],none,h=>z365 h (z14a P a h fn.results.toList)
 |[],some v,h=>some (.panic v,h)
 |(f,args,cap)::ds,u,h=>match isMrk cap with
  |true=>match f,args,cap with
   |0,[],[.mrk D]=>match h.get D with
    |some (.obj .dfr)=>dsM P call lf fn a ds u (h.put D (.obj .shut))
    |_=>none
   |_,_,_=>none
  |false=>match callD P call lf f (args++cap) u h with
   |some (u,h)=>dsM P call lf fn a ds u h
   |none=>none
def fallM(P:Program)(call:zc)(lf:Nat):List (Option Tmp×MF)→MF→AV→AHeap→Option MS
 |[],_,_,_=>none
 |(d,fr)::st,top,v,h=>match P.funcs[top.f]? with
  |some fn=>match dsM P call lf fn top.a top.a.defers (some v) h with
   | some (.ret x, h) => match (match d with
     |some t=>Nat.blt t fr.N
     |none=>true) with
    |true=>some ⟨{fr with a:=fr.a.put d x},st,h⟩
    |false=>none
   |some (.panic x,h)=>fallM P call lf st fr x h
   |none=>none
  |none=>none
def dfrM(S:MS)(p:List Nat)(j:Nat)(k:List KI)(o:Oper):za8→Option MS
 |some (.defer f args cap,h)=>match z13c S.top.N o with
  |true=>some ⟨{S.top with a:=(⟨S.top.a.tmps,(f,args,cap)::S.top.a.defers⟩:AAct).put o.dst (.tup []),k:=.ops p (j+1)::k},S.st,h⟩
  |false=>none
 |_=>none
def z41c(l:List Oper):Bool:=l.all fun o=>match o.op with
 | .defer _=>false
 |_=>true
def popM(S:MS):Option (ARes×AHeap)→Option MS
 |some (.ret v,h)=>match S.st with
  | (d, fr) :: st => match (match d with
    |some t=>Nat.blt t fr.N
    |none=>true) with
   |true=>some ⟨{fr with a:=fr.a.put d v},st,h⟩
   |false=>none
  |[]=>none
 |_=>none
def stepM(P:Program)(both:z2dd)(lf:Nat)(S:MS):MI→Option MS
 | .atom=>match S.top.k with
  | .code p::k=>goE S k (codeR P both lf S.top.N none (z12c (z136 P S.top.f) p) S.top.a S.h)
  |_=>none
 | .opn=>match S.top.k with
  | .code p::k=>opnM S p k (z12c (z136 P S.top.f) p)
  |_=>none
 | .ops n=>match S.top.k with
  | .ops p j::k=>match z2b0 S.top.N (z256 (z12c (z136 P S.top.f) p)).toList&&z41c (((z256 (z12c (z136 P S.top.f) p)).toList.drop j).take n) with
   |true=>match opsR P both (z256 (z12c (z136 P S.top.f) p)) (((z256 (z12c (z136 P S.top.f) p)).toList.drop j).take n) S.top.a S.h with
    |some (.normal,a,h)=>some ⟨{S.top with a:=a,k:=.ops p (j+n)::k},S.st,h⟩
    |_=>none
   |false=>none
  |_=>none
 | .call=>match S.top.k with
  | .ops p j::k=>match (z256 (z12c (z136 P S.top.f) p)).toList.drop j with
   |o::_=>match o.op with
    | .defer _=>none
    |_=>match z3d (z256 (z12c (z136 P S.top.f) p)) S.top.a.tmps.get o.guard with
     |some true=>callM P S p j k o (opA P S.top.a.eval o S.h)
     |_=>none
   |[]=>none
  |_=>none
 | .dfr=>match S.top.k with
  | .ops p j::k=>match (z256 (z12c (z136 P S.top.f) p)).toList.drop j with
   |o::_=>match z3d (z256 (z12c (z136 P S.top.f) p)) S.top.a.tmps.get o.guard with
    |some true=>dfrM S p j k o (opA P S.top.a.eval o S.h)
    |_=>none
   |[]=>none
  |_=>none
 | .fall=>match S.top.k with
  | .code p::_=>match codeR P both lf S.top.N none (z12c (z136 P S.top.f) p) S.top.a S.h with
   |some (.panic v,a,h)=>fallM P (both false) lf S.st {S.top with a:=a} v h
   |_=>none
  | .ops p j::_=>match z2b0 S.top.N (z256 (z12c (z136 P S.top.f) p)).toList&&z41c (((z256 (z12c (z136 P S.top.f) p)).toList.drop j).take 1) with
   |true=>match opsR P both (z256 (z12c (z136 P S.top.f) p)) (((z256 (z12c (z136 P S.top.f) p)).toList.drop j).take 1) S.top.a S.h with
    |some (.panic v,a,h)=>fallM P (both false) lf S.st {S.top with a:=a} v h
    |_=>none
   |false=>none
  |_=>none
 | .pop=>match S.top.k with
  |[]=>match P.funcs[S.top.f]? with
   |some fn=>popM S (dsM P (both false) lf fn S.top.a S.top.a.defers none S.h)
   |none=>none
  |_=>none
 | .pass=>match S.top.k with
  | .inBlock _::k=>some {S with top:={S.top with k:=k}}
  | .inLoop p::k=>some {S with top:={S.top with k:=.code p:: .inLoop p::k}}
  | .ops p j::k=>match (z256 (z12c (z136 P S.top.f) p)).toList.drop j with
   |[]=>some {S with top:={S.top with k:=k}}
   |_=>none
  |_=>none
 | .rounds _=>none
def nextM(ih:MS→Option MS):Option MS→Option MS
 |some S=>ih S
 |none=>none
def roundM(P:Program)(both:z2dd)(lf:Nat)(S:MS):Option MS:=nextM (fun S=>stepM P both lf S .atom) (stepM P both lf S .pass)
def roundsM(P:Program)(both:z2dd)(lf:Nat)(n:Nat):MS→Option MS:= @Nat.rec (fun _=>MS→Option MS) (fun S=>some S) (fun _ ih S=>nextM ih (roundM P both lf S)) n
def z484(P:Program)(both:z2dd)(lf:Nat)(S:MS):MI→Option MS
 | .rounds n=>roundsM P both lf n S
 |i=>stepM P both lf S i
structure LF where
 f:FuncId
 N:Nat
 l:Fr
 ds:List (FuncId×List AV×List AV)
 k:List KI
inductive LO where
 |row (l:List AV) (e:TypeId)
 |map (es:List (AV×AV))
 |glob (l:List AV)
 |dfr
structure LS where
 top:LF
 st:List (Option Tmp×LF)
 next:Nat
 ex:List Nat
 obs:List (Nat×LO)
def LO.obj:LO→AObj
 | .row l e=>ze8 l e
 | .map es=>.map es
 | .glob l=>.glob (T.put .e 0 l)
 | .dfr=>.obj .dfr
def obTree:List (Nat×LO)→T AObj
 |[]=>.e
 |(b,o)::r=>(obTree r).set b o.obj
def LF.mf(x:LF):MF:=⟨x.f,x.N,⟨x.l.tree,x.ds⟩,x.k⟩
def LS.ms(x:LS):MS:=⟨x.top.mf,x.st.map fun y=>(y.1,y.2.mf),⟨x.next,x.ex,obTree x.obs⟩⟩
end
noncomputable section
open Go.RowKit
section
variable {P:Program}{n:Nat}{F:Fence}
def InLW(P:Program)(c:Code)(Q:Exit→Act→World→Prop)(act:Act)(w:World):Prop:=
 ∀(b:Frame) (k:List Item) (cs:List Frame),b.roundOf=Fence.wide.round→Fence.wide.fn b.fn→Fence.wide.room (cs.length+1+0)→
  ∃e a' w',Q e a' w'∧ArrivesIn (Machine.fenced P Fence.wide) P (lone (b.atR act (.code c:: .inLoop c::k)) cs w) b k cs e a' w'
theorem InLW.round{c:Code}{Q:Exit→Act→World→Prop}{act:Act}{w:World}(hk:c.wpIn Fence.wide 0 P (Exit.then (InLW P c Q) Q) act w):InLW P c Q act w:=by
 intro b k cs hro hb hr;obtain⟨e1,a1,w1,hq,harr⟩:=hk b (.inLoop c::k) cs hro hb hr
 cases e1 with
 |normal=>
  obtain⟨e3,a3,w3,hq3,harr3⟩:=hq b k cs hro hb hr;exact⟨e3,a3,w3,hq3,.of_steps (StepsIn.trans harr (.one (fenced_calm hb hr rfl) stepR_inLoop)) harr3⟩
 |exit id=>exact⟨_,a1,w1,hq,.pass (x:=.inLoop c) rfl (fun _ _=>.inl (by simp)) harr⟩
 |goto l=>exact⟨_,a1,w1,hq,.pass (x:=.inLoop c) rfl (fun _ _=>.inl (by simp)) harr⟩
 |ret=>exact⟨_,a1,w1,hq,.pass (x:=.inLoop c) rfl (fun _ _=>.inl (by simp)) harr⟩
 |panic ch=>exact⟨_,a1,w1,hq,.pass (x:=.inLoop c) rfl (fun _ _=>.inl (by simp)) harr⟩
 |outgrown=>exact⟨_,a1,w1,hq,.pass (x:=.inLoop c) rfl (fun _ _=>.inl (by simp)) harr⟩
end
section
variable {P:Program}
def z2dc(P:Program)(fn:Func)(tmps:Array Value)(R:Ending→World→Prop):List Deferred→FrameMode→World→Prop
  |[],u,w=>Leaves P fn tmps R [] u w
  | d :: ds, u, w => u ≠ .run ∧
      ((∃ r w', d.target = .collected r ∧ (Instr.takeDeferred r).run P w = .ok [] w' ∧ z2dc P fn tmps R ds u w') ∨
       (∃ fv cap f args, d.target = .fn fv cap ∧ (invoke d.target d.args).run P w = .ok (.enter f args) w ∧
        CallsD P f args u w fun
          | .returned _,u',w'=>z2dc P fn tmps R ds (settle u') w'
          | .panicked chain,u',w'=>z2dc P fn tmps R ds (raised u' chain) w'
          | .outgrown,_,w'=>R .outgrown w'))
def bodyPostX(P:Program)(fn:Func)(R:Ending→World→Prop):Exit→Act→World→Prop
 | .normal,a,w| .ret,a,w=>z2dc P fn a.tmps R a.defers .returning w
 | .panic chain,a,w=>z2dc P fn a.tmps R a.defers (.panicking chain) w
 | .outgrown,_,w=>R .outgrown w
 |_,_,_=>False
end
section
variable {P:Program}{w0:Base}{R0:Ending→World→Prop}{both:z2dd}{lf:Nat}
def Bo(P:Program)(f:FuncId)(R:Ending→World→Prop):Exit→Act→World→Prop:=match P.funcs[f]? with
 |some fn=>bodyPostX P fn R
 |none=>fun _ _ _=>False
theorem Bo.ret{f:FuncId}{R:Ending→World→Prop}{a:Act}{w:World}(h:Bo P f R .normal a w):Bo P f R .ret a w:=by
 revert h
 unfold Bo
 cases P.funcs[f]? with
 |none=>exact id
 |some fn=>exact id
variable {c:Code}{Q:Exit→Act→World→Prop}{act:Act}{w:World}
end
end
noncomputable section
open Go.RowKit
theorem z2c0{P:Program}{W:World}:∀{L:List (String×DataW Unit)} {ps:List MemPlace},DataW.LaidVars P W L ps→∀{i:Nat} {n:String} {d:DataW Unit},L[i]? =some (n,d)→
  ∃g t cs fuel p,P.globalNamed n=some g∧(P.globals[g]?).map (·.type)=some t∧W.var? P n=some cs∧DataW.trod (fun _=>()) P W 0 (fun _=>true) false fuel t cs.toList=some (d,p)
 |[],_,_,i,n,d,hi=>by simp at hi
 |(n',d')::L,ps,h,i,n,d,hi=>by
  obtain⟨g,t,cs,fuel,p,q,h1,h2,h3,h4,h5,_⟩:=h
  cases i with
  |zero=>
   simp only[List.getElem?_cons_zero,Option.some.injEq,Prod.mk.injEq] at hi;obtain⟨rfl,rfl⟩:=hi;exact⟨g,t,cs,fuel,p,h1,h2,h3,h4⟩
  |succ i=>exact z2c0 h5 (by simpa using hi)
theorem laid_ints{P:Program}{W:World}{L:List (String×DataW Unit)}(h:laidMet P L W){i:Nat}{n:String}{g t e len:Nat}{k:IntKind}{zs:List Int}(hm:L[i]? =some (n,DataW.agg (zs.map fun z=>.lit (.int k z))))(hg:P.globalNamed n=some g)(ht:(P.globals[g]?).map (·.type)=some t)(hu:P.underlying t=some (.array len e))(hue:P.underlying e=some (.int k))(hce:P.cellsOf e=1)(h0:0<zs.length):
  g<W.heap.size∧∀j x,(zs.map fun z=>AV.int k z)[j]? =some x→∃y,W.cell? ⟨g,j,none⟩=some y∧Rel [] x y∧y.oneCell'=true:=by
 obtain⟨ps,hv,_⟩:=h;obtain⟨g',t',cs,fuel,p,k1,k2,k3,k4⟩:=z2c0 hv hm;rw[hg] at k1
 cases k1
 rw[ht] at k2
 cases k2
 obtain⟨xs,m,_,ex,_,hl,hel⟩:=DataW.trod_array hu k4;have e3:(xs.map (·.1))=zs.map fun z=>(DataW.lit (.int k z):DataW Unit):=(DataW.agg.inj (Prod.mk.inj ex).1).symm
 have hlen:xs.length=zs.length:=by
  have:=congrArg List.length e3
  simpa using this
 have cell:∀j (hj:j<zs.length),W.cell? ⟨g,j,none⟩=some (.int k zs[j]):=by
  intro j hj;have hE:=hel j (by omega);rw[hce,Nat.mul_one,List.getElem?_eq_getElem (by omega)] at hE;obtain⟨z,e1,e2,_⟩:=DataW.trod_int hue hE;have e4:(xs.map (·.1))[j]? =(zs.map fun z=>(DataW.lit (.int k z):DataW Unit))[j]?:=by rw[e3]
  rw[List.getElem?_map,List.getElem?_map,List.getElem?_eq_getElem (by omega:j<xs.length),List.getElem?_eq_getElem hj,e2] at e4;simp only[Option.map_some,Option.some.injEq,DataW.lit.injEq,Lit.int.injEq,true_and] at e4;subst e4;rw[World.var?_cell hg k3 j]
  have:cs.toList[j]? =some (.int k zs[j]):=by
   have h0:((cs.toList.drop j).take 1)[0]? =some (.int k zs[j]):=by rw[e1];rfl
   simpa using h0
  simpa using this
 refine⟨?_,fun j x hx=>?_⟩
 ·have := cell 0 h0
  unfold World.cell? at this;cases hb:W.heap[g]? with
  |none=>simp[hb] at this
  |some o=>exact zfa hb
 ·rw [List.getElem?_map] at hx
  cases hz:zs[j]? with
  |none=>rw[hz] at hx;cases hx
  |some z=>
   rw[hz] at hx;simp only[Option.map_some,Option.some.injEq] at hx;subst hx;obtain⟨hj,rfl⟩:=List.getElem?_eq_some_iff.1 hz;exact⟨_,cell j hj,.int k _,rfl⟩
theorem laid_put{GL:Tabs}{W:World}{g:Nat}{l:List AV}(h:g<W.heap.size∧∀i x,l[i]? =some x→∃y,W.cell? ⟨g,i,none⟩=some y∧Rel [] x y∧y.oneCell'=true)(hL:Laid GL W):Laid ((g,l)::GL) W:=fun g' l' hm=>by
 rcases List.mem_cons.1 hm with e|hm
 ·cases e;exact h
 ·exact hL g' l' hm
end
noncomputable section
open Go.RowKit
end
noncomputable section
open Go.RowKit
end
noncomputable section
open Go.RowKit
end
noncomputable section
open Go.RowKit
section
variable {H:Type}{enc:TypeId×Value→H}{P:Program}{W:World}
theorem open_allG{n:Nat}(GL:Tabs)(G:Nat)(X:List Nat)(hL:Laid GL W)(hG:z36f G GL=true){ts:List TypeId}{vs:List Value}{ds:List (DataW H)}{p:List MemPlace}(ht:DataW.TrodAll enc P W 0 (fun _=>true) true ts vs ds p)(hpl:∀x∈p,x.block<W.heap.size)(hwt:(DataW.weightsEach P ts ds).all (·≤reachBytes)=true)(hall:ts.all (z21a P n)=true)(hval:∀(i:Nat) t v,ts[i]? =some t→vs[i]? =some v→∃base,Value.okWide P W .any base t v):
  ∃(m:Map) (h:AHeap) (as:List AV),Fits W m h W∧h.ex=X∧Keeps (z268 GL X G) h∧RelL m as vs∧z407 P h.next h n ts as:=by
 obtain⟨m,h,as,_,k,F,_,a,b⟩:=z387 (n:=n) ts vs ds p ht hpl (fun k hk=>by simpa using List.all_eq_true.1 hwt k hk) hall hval (mapG G) (z268 GL X G) (z3eb hL hG) (fun b o hb=>by
  obtain⟨l,_,rfl⟩:=z1f1 hb;rfl)
 exact⟨m,h,as,F,k.2.1,k,a,b⟩
end
end
noncomputable section
open Go.RowKit
section
variable {P:Program}{w0:Base}{m0:Map}{N:Nat}{l l':Fr}{ds:z19c}{h:AHeap}{Q:Exit→Act→World→Prop}{K:Act→World→Prop}{Y:za8}{ops:Array Oper}{i:Nat}
theorem WL.a(d:Option Nat)(v:AV)(h':AHeap)(hk:WL P w0 m0 N ops (i+1) Q (l.put d v) ds h')(h1:z142 N ops i=some d:=by kernel_rfl)(h2:z2a ops l.get i=some true:=by kernel_rfl)(h3:z12e P l.eval ops i h=some (.val v,h'):=by kernel_rfl):WL P w0 m0 N ops i Q l ds h:=WL.val h1 h2 h3 hk
theorem WL.b(d:Option Nat)(v:AV)(h':AHeap)(x:Y=some (.val v,h'))(hk:WL P w0 m0 N ops (i+1) Q (l.put d v) ds h')(h1:z142 N ops i=some d:=by kernel_rfl)(h2:z2a ops l.get i=some true:=by kernel_rfl)(h3:z12e P l.eval ops i h=Y:=by kernel_rfl):WL P w0 m0 N ops i Q l ds h:=WL.val h1 h2 (h3.trans x) hk
theorem WL.e(h':AHeap)(x:Y=some (.skip,h'))(hk:WL P w0 m0 N ops (i+1) Q l ds h')(h1:z142 N ops i=some none:=by kernel_rfl)(h2:z2a ops l.get i=some true:=by kernel_rfl)(h3:z12e P l.eval ops i h=Y:=by kernel_rfl):WL P w0 m0 N ops i Q l ds h:=WL.eff h1 h2 (h3.trans x) hk
theorem WL.o(d:Option Nat)(hk:WL P w0 m0 N ops (i+1) Q (l.put d (.tup [])) ds h)(h1:z142 N ops i=some d:=by kernel_rfl)(h2:z2a ops l.get i=some false:=by kernel_rfl):WL P w0 m0 N ops i Q l ds h:=WL.not h1 h2 hk
theorem WL.c{call:zc}(hc:z137 P w0 call)(d:Option Nat){f:FuncId}{args:List AV}{v:AV}{h1 h':AHeap}(hcall:call f args h1=some (.ret v,h'))(hk:WL P w0 m0 N ops (i+1) Q (l.put d v) ds h')(h2:z142 N ops i=some d:=by kernel_rfl)(h3:z2a ops l.get i=some true:=by kernel_rfl)(h4:z12e P l.eval ops i h=some (.call f args,h1):=by kernel_rfl):WL P w0 m0 N ops i Q l ds h:=WL.call hc h2 h3 h4 hcall hk
theorem WL.n(hk:Go w0 m0 N (Q .normal) l ds h)(hi:Nat.beq ops.size i=true:=by kernel_rfl):WL P w0 m0 N ops i Q l ds h:=WL.nil hi hk
theorem WD.a{call:zc}{plan:List Nat}{rs:List Rec}(k:Nat)(d:Option Nat)(v:AV)(h':AHeap)(hk:WD P w0 m0 N call ops plan (z44e k (z37e P ops i l h) rs) K (l.put d v) ds h')(h1:z142 N ops i=some d:=by kernel_rfl)(h2:z2a ops l.get i=some true:=by kernel_rfl)(h3:z12e P l.eval ops i h=some (.val v,h'):=by kernel_rfl)(h4:z2ee P ops i=k:=by kernel_rfl)(h5:Nat.beq k 2=false:=by kernel_rfl)(h6:Nat.beq k 9=false:=by kernel_rfl):WD P w0 m0 N call ops (i::plan) rs K l ds h:=
 WD.val h1 h2 h3 h4 (fun e=>by subst e;cases h5) (fun e=>by subst e;cases h6) hk
theorem WD.b{call:zc}{plan:List Nat}{rs:List Rec}(k:Nat)(d:Option Nat)(v:AV)(h':AHeap)(x:Y=some (.val v,h'))(hk:WD P w0 m0 N call ops plan (z44e k (z37e P ops i l h) rs) K (l.put d v) ds h')(h1:z142 N ops i=some d:=by kernel_rfl)(h2:z2a ops l.get i=some true:=by kernel_rfl)(h3:z12e P l.eval ops i h=Y:=by kernel_rfl)(h4:z2ee P ops i=k:=by kernel_rfl)(h5:Nat.beq k 2=false:=by kernel_rfl)(h6:Nat.beq k 9=false:=by kernel_rfl):WD P w0 m0 N call ops (i::plan) rs K l ds h:=
 WD.val h1 h2 (h3.trans x) h4 (fun e=>by subst e;cases h5) (fun e=>by subst e;cases h6) hk
theorem W.r{c:Code}(hk:WL P w0 m0 N (Code.ops c) 0 Q l ds h)(hc:Code.kind c=7:=by kernel_rfl):W P w0 m0 N c Q l ds h:=W.region hc hk
theorem W.s{c:Code}(hk:∀K:Exit→Act→World→Prop,(∀{ds:z19c} {l:Fr} {h:AHeap},W P w0 m0 N (y3 c) Q l ds h→Go w0 m0 N (K .normal) l ds h)→
  (∀{id:Nat} {ds:z19c} {l:Fr} {h:AHeap},Go w0 m0 N (Q (.exit id)) l ds h→Go w0 m0 N (K (.exit id)) l ds h)→(∀{ds:z19c} {l:Fr} {h:AHeap},Go w0 m0 N (Q .ret) l ds h→Go w0 m0 N (K .ret) l ds h)→
  (∀{ds:z19c} {l:Fr} {v:AV} {h:AHeap},Pan w0 m0 N Q l ds v h→Pan w0 m0 N K l ds v h)→W P w0 m0 N (y4 c) K l ds h)(hc:Code.kind c=1:=by kernel_rfl):W P w0 m0 N c Q l ds h:=y5d hc hk
theorem W.t{c:Code}(hk:W P w0 m0 N (y4 c) Q l ds h)(hc:Code.kind c=2:=by kernel_rfl)(hv:l.eval (y40 c)=some (.bool true):=by kernel_rfl):W P w0 m0 N c Q l ds h:=y4f hc hv hk
theorem W.f{c:Code}(hk:W P w0 m0 N (y3 c) Q l ds h)(hc:Code.kind c=2:=by kernel_rfl)(hv:l.eval (y40 c)=some (.bool false):=by kernel_rfl):W P w0 m0 N c Q l ds h:=y4c hc hv hk
end
theorem Fr.c{l l':Fr}{t:Nat}{v:AV}(k:l.sub l')(h:l.get t=some v:=by kernel_rfl):l.sub ((t,v)::l'):=y51 h k
theorem Fr.n{l:Fr}:l.sub []:=y53 l
end
noncomputable section
open Go.RowKit
section
variable {P:Program}{w0:Base}{m0:Map}{N:Nat}{l l':Fr}{ds:z19c}{h:AHeap}{Q:Exit→Act→World→Prop}{K:Act→World→Prop}{Y:za8}{ops:Array Oper}{i:Nat}{r:ARes×AHeap}{call:zc}
theorem oB(d:Nat){x:Bool}{k:Bool→R}(z:lett x k=some r)(hk:∀t,k t=some r→WL P w0 m0 N ops (i+1) Q (l.put (some d) (.bool t)) ds h)(h1:z142 N ops i=some (some d):=by kernel_rfl)(h2:z2a ops l.get i=some true:=by kernel_rfl)(h3:z12e P l.eval ops i h=some (.val (.bool x),h):=by kernel_rfl):WL P w0 m0 N ops i Q l ds h:=WL.val h1 h2 h3 (hk x z)
theorem oI(d:Nat)(c:IntKind){x:Int}{k:Int→R}(z:lett x k=some r)(hk:∀t,k t=some r→WL P w0 m0 N ops (i+1) Q (l.put (some d) (.int c t)) ds h)(h1:z142 N ops i=some (some d):=by kernel_rfl)(h2:z2a ops l.get i=some true:=by kernel_rfl)(h3:z12e P l.eval ops i h=some (.val (.int c x),h):=by kernel_rfl):WL P w0 m0 N ops i Q l ds h:=WL.val h1 h2 h3 (hk x z)
theorem oN(d:Nat){x:AHeap}{k:AHeap→R}(z:lett x k=some r)(hk:∀h',k h'=some r→WL P w0 m0 N ops (i+1) Q (l.put (some d) (z6 h)) ds h')(h1:z142 N ops i=some (some d):=by kernel_rfl)(h2:z2a ops l.get i=some true:=by kernel_rfl)(h3:z12e P l.eval ops i h=some (.val (z6 h),x):=by kernel_rfl):WL P w0 m0 N ops i Q l ds h:=WL.val h1 h2 h3 (hk x z)
theorem oA(d:Nat)(v:AV)(hk:WL P w0 m0 N ops (i+1) Q (l.put (some d) v) ds h)(h1:z142 N ops i=some (some d):=by kernel_rfl)(h2:z2a ops l.get i=some true:=by kernel_rfl)(h3:z12e P l.eval ops i h=some (.val v,h):=by kernel_rfl):WL P w0 m0 N ops i Q l ds h:=WL.val h1 h2 h3 hk
theorem oW(t:TypeId)(v:AV){n:Nat}{cs:List AV}{p:AV}{k:AHeap→R}(z:obind (z15 h n cs p) k=some r)(hk:∀h',k h'=some r→WL P w0 m0 N ops (i+1) Q l ds h')(a0:cs=v.cells:=by kernel_rfl)(a1:(P.info? t).isSome=true:=by kernel_rfl)(a2:P.cellsOf t=n:=by kernel_rfl)(h1:z142 N ops i=some none:=by kernel_rfl)(h2:z2a ops l.get i=some true:=by kernel_rfl)(h3:z12e P l.eval ops i h=z258 P h t (some p) (some v):=by kernel_rfl):WL P w0 m0 N ops i Q l ds h:=by
 obtain⟨h',e,z1⟩:=z3 z;subst a0;exact WL.eff h1 h2 (h3.trans (z3f a1 a2 e)) (hk h' z1)
theorem oL(d t:Nat){x:AV}{k:AV→R}(z:obind (z7 h x) k=some r)(hk:∀v,k v=some r→WL P w0 m0 N ops (i+1) Q (l.put (some d) v) ds h)(a1:z195 P t=some false:=by kernel_rfl)(h1:z142 N ops i=some (some d):=by kernel_rfl)(h2:z2a ops l.get i=some true:=by kernel_rfl)(h3:z12e P l.eval ops i h=zb6 P h t (some x):=by kernel_rfl):WL P w0 m0 N ops i Q l ds h:=by
 obtain⟨v,e,z1⟩:=z3 z;exact WL.val h1 h2 (h3.trans (z14 a1 e)) (hk v z1)
theorem oLi(d t:Nat){c:IntKind}{x:AV}{k:Int→R}(z:(obind (z7 h x) fun v=>obind (avInt c v) k)=some r)(hk:∀v,k v=some r→WL P w0 m0 N ops (i+1) Q (l.put (some d) (.int c v)) ds h)(a1:z195 P t=some false:=by kernel_rfl)(h1:z142 N ops i=some (some d):=by kernel_rfl)(h2:z2a ops l.get i=some true:=by kernel_rfl)(h3:z12e P l.eval ops i h=zb6 P h t (some x):=by kernel_rfl):WL P w0 m0 N ops i Q l ds h:=by
 obtain⟨v,e,z1⟩:=z3 z;obtain⟨n,c1,z2⟩:=z3 z1;have c2:=z17 c1;subst c2;exact WL.val h1 h2 (h3.trans (z14 a1 e)) (hk n z2)
theorem oLb(d t:Nat){x:AV}{k:Bool→R}(z:(obind (z7 h x) fun v=>obind (z23 v) k)=some r)(hk:∀v,k v=some r→WL P w0 m0 N ops (i+1) Q (l.put (some d) (.bool v)) ds h)(a1:z195 P t=some false:=by kernel_rfl)(h1:z142 N ops i=some (some d):=by kernel_rfl)(h2:z2a ops l.get i=some true:=by kernel_rfl)(h3:z12e P l.eval ops i h=zb6 P h t (some x):=by kernel_rfl):WL P w0 m0 N ops i Q l ds h:=by
 obtain⟨v,e,z1⟩:=z3 z;obtain⟨n,c1,z2⟩:=z3 z1;have c2:=z57 c1;subst c2;exact WL.val h1 h2 (h3.trans (z14 a1 e)) (hk n z2)
theorem oLs(d t:Nat){x:AV}{k:Bytes→R}(z:(obind (z7 h x) fun v=>obind (z1c4 v) k)=some r)(hk:∀v,k v=some r→WL P w0 m0 N ops (i+1) Q (l.put (some d) (strA v)) ds h)(a1:z195 P t=some false:=by kernel_rfl)(h1:z142 N ops i=some (some d):=by kernel_rfl)(h2:z2a ops l.get i=some true:=by kernel_rfl)(h3:z12e P l.eval ops i h=zb6 P h t (some x):=by kernel_rfl):WL P w0 m0 N ops i Q l ds h:=by
 obtain⟨v,e,z1⟩:=z3 z;obtain⟨n,c1,z2⟩:=z3 z1;have c2:=z105 c1;subst c2;exact WL.val h1 h2 (h3.trans (z14 a1 e)) (hk n z2)
theorem oR(d t:Nat){n:Nat}{x:AV}{k:List AV→R}(z:obind (z16 h n x) k=some r)(hk:∀v,k v=some r→WL P w0 m0 N ops (i+1) Q (l.put (some d) (.agg v)) ds h)(a1:z195 P t=some true:=by kernel_rfl)(a2:P.cellsOf t=n:=by kernel_rfl)(h1:z142 N ops i=some (some d):=by kernel_rfl)(h2:z2a ops l.get i=some true:=by kernel_rfl)(h3:z12e P l.eval ops i h=zb6 P h t (some x):=by kernel_rfl):WL P w0 m0 N ops i Q l ds h:=by
 obtain⟨v,e,z1⟩:=z3 z;exact WL.val h1 h2 (h3.trans (zb1 a1 a2 e)) (hk v z1)
theorem oF(d s f:Nat){off:Nat}{x:AV}{k:AV→R}(z:obind (z49 off x) k=some r)(hk:∀v,k v=some r→WL P w0 m0 N ops (i+1) Q (l.put (some d) v) ds h)(a1:(match P.underlying s with
  |some (.struct fs)=>match fs[f]? with
   |some g=>Nat.blt 0 (P.cellsOf g.type)&&Nat.beq g.offset off
   |none=>false
  |_=>false)=true:=by kernel_rfl)(h1:z142 N ops i=some (some d):=by kernel_rfl)(h2:z2a ops l.get i=some true:=by kernel_rfl)(h3:z12e P l.eval ops i h=z89 P h s f (some x):=by kernel_rfl):WL P w0 m0 N ops i Q l ds h:=by
 obtain⟨v,e,z1⟩:=z3 z;exact WL.val h1 h2 (h3.trans (z1b a1 e)) (hk v z1)
theorem oX(d t:Nat)(c:IntKind){s:Bytes}{j:Int}{k:Int→R}(z:obind (idxS s j) k=some r)(hk:∀v,k v=some r→WL P w0 m0 N ops (i+1) Q (l.put (some d) (.int .u8 v)) ds h)(a1:P.underlying t=some .string:=by kernel_rfl)(h1:z142 N ops i=some (some d):=by kernel_rfl)(h2:z2a ops l.get i=some true:=by kernel_rfl)(h3:z12e P l.eval ops i h=zcc P h t (some (strA s)) (some (.int c j)):=by kernel_rfl):WL P w0 m0 N ops i Q l ds h:=by
 obtain⟨v,e,z1⟩:=z3 z;exact WL.val h1 h2 (h3.trans (z230 a1 e)) (hk v z1)
theorem oP(d t e':Nat)(c:IntKind){sz:Nat}{x:AV}{j:Int}{k:AV→R}(z:obind (z1a8 sz x j) k=some r)(hk:∀v,k v=some r→WL P w0 m0 N ops (i+1) Q (l.put (some d) v) ds h)(a1:elemOf P t=some e':=by kernel_rfl)(a2:(P.info? e').isSome=true:=by kernel_rfl)(a3:P.cellsOf e'=sz:=by kernel_rfl)(h1:z142 N ops i=some (some d):=by kernel_rfl)(h2:z2a ops l.get i=some true:=by kernel_rfl)(h3:z12e P l.eval ops i h=z48 P h t (some x) (some (.int c j)):=by kernel_rfl):WL P w0 m0 N ops i Q l ds h:=by
 obtain⟨v,e,z1⟩:=z3 z;exact WL.val h1 h2 (h3.trans (z178 a1 a2 a3 e)) (hk v z1)
theorem oQ(d t e':Nat)(c:IntKind){n sz:Nat}{x:AV}{j:Int}{k:AV→R}(z:obind (z313 n sz x j) k=some r)(hk:∀v,k v=some r→WL P w0 m0 N ops (i+1) Q (l.put (some d) v) ds h)(a1:P.underlying t=some (.array n e'):=by kernel_rfl)(a2:(P.info? e').isSome=true:=by kernel_rfl)(a3:P.cellsOf e'=sz:=by kernel_rfl)(h1:z142 N ops i=some (some d):=by kernel_rfl)(h2:z2a ops l.get i=some true:=by kernel_rfl)(h3:z12e P l.eval ops i h=z48 P h t (some x) (some (.int c j)):=by kernel_rfl):WL P w0 m0 N ops i Q l ds h:=by
 obtain⟨v,e,z1⟩:=z3 z;exact WL.val h1 h2 (h3.trans (zec a1 a2 a3 e)) (hk v z1)
theorem oC0(d:Nat){x:AV}{k:AV→R}(z:obind (z74 x) k=some r)(hk:∀v,k v=some r→WL P w0 m0 N ops (i+1) Q (l.put (some d) v) ds h)(h1:z142 N ops i=some (some d):=by kernel_rfl)(h2:z2a ops l.get i=some true:=by kernel_rfl)(h3:z12e P l.eval ops i h=z389 h (some x):=by kernel_rfl):WL P w0 m0 N ops i Q l ds h:=by
 obtain⟨v,e,z1⟩:=z3 z;exact WL.val h1 h2 (h3.trans (z2c e)) (hk v z1)
theorem oM(d t e':Nat){x:AV}{k:Int→R}(z:obind (z17d x) k=some r)(hk:∀v,k v=some r→WL P w0 m0 N ops (i+1) Q (l.put (some d) (.int .i64 v)) ds h)(a1:P.underlying t=some (.slice e'):=by kernel_rfl)(h1:z142 N ops i=some (some d):=by kernel_rfl)(h2:z2a ops l.get i=some true:=by kernel_rfl)(h3:z12e P l.eval ops i h=z222 P h t x:=by kernel_rfl):WL P w0 m0 N ops i Q l ds h:=by
 obtain⟨v,e,z1⟩:=z3 z;exact WL.val h1 h2 (h3.trans (z3e3 a1 e)) (hk v z1)
theorem oE(d:Nat){j:Nat}{x:AV}{k:AV→R}(z:obind (z153 j x) k=some r)(hk:∀v,k v=some r→WL P w0 m0 N ops (i+1) Q (l.put (some d) v) ds h)(h1:z142 N ops i=some (some d):=by kernel_rfl)(h2:z2a ops l.get i=some true:=by kernel_rfl)(h3:z12e P l.eval ops i h=z9f h j (some x):=by kernel_rfl):WL P w0 m0 N ops i Q l ds h:=by
 obtain⟨v,e,z1⟩:=z3 z;exact WL.val h1 h2 (h3.trans (zfb e)) (hk v z1)
theorem oEi(d:Nat){c:IntKind}{j:Nat}{x:AV}{k:Int→R}(z:(obind (z153 j x) fun v=>obind (avInt c v) k)=some r)(hk:∀v,k v=some r→WL P w0 m0 N ops (i+1) Q (l.put (some d) (.int c v)) ds h)(h1:z142 N ops i=some (some d):=by kernel_rfl)(h2:z2a ops l.get i=some true:=by kernel_rfl)(h3:z12e P l.eval ops i h=z9f h j (some x):=by kernel_rfl):WL P w0 m0 N ops i Q l ds h:=by
 obtain⟨v,e,z1⟩:=z3 z;obtain⟨n,c1,z2⟩:=z3 z1;have c2:=z17 c1;subst c2;exact WL.val h1 h2 (h3.trans (zfb e)) (hk n z2)
theorem oEb(d:Nat){j:Nat}{x:AV}{k:Bool→R}(z:(obind (z153 j x) fun v=>obind (z23 v) k)=some r)(hk:∀v,k v=some r→WL P w0 m0 N ops (i+1) Q (l.put (some d) (.bool v)) ds h)(h1:z142 N ops i=some (some d):=by kernel_rfl)(h2:z2a ops l.get i=some true:=by kernel_rfl)(h3:z12e P l.eval ops i h=z9f h j (some x):=by kernel_rfl):WL P w0 m0 N ops i Q l ds h:=by
 obtain⟨v,e,z1⟩:=z3 z;obtain⟨n,c1,z2⟩:=z3 z1;have c2:=z57 c1;subst c2;exact WL.val h1 h2 (h3.trans (zfb e)) (hk n z2)
theorem oEs(d:Nat){j:Nat}{x:AV}{k:Bytes→R}(z:(obind (z153 j x) fun v=>obind (z1c4 v) k)=some r)(hk:∀v,k v=some r→WL P w0 m0 N ops (i+1) Q (l.put (some d) (strA v)) ds h)(h1:z142 N ops i=some (some d):=by kernel_rfl)(h2:z2a ops l.get i=some true:=by kernel_rfl)(h3:z12e P l.eval ops i h=z9f h j (some x):=by kernel_rfl):WL P w0 m0 N ops i Q l ds h:=by
 obtain⟨v,e,z1⟩:=z3 z;obtain⟨n,c1,z2⟩:=z3 z1;have c2:=z105 c1;subst c2;exact WL.val h1 h2 (h3.trans (zfb e)) (hk n z2)
theorem oEa(d:Nat){j:Nat}{x:AV}{k:List AV→R}(z:(obind (z153 j x) fun v=>obind (z65 v) k)=some r)(hk:∀v,k v=some r→WL P w0 m0 N ops (i+1) Q (l.put (some d) (.agg v)) ds h)(h1:z142 N ops i=some (some d):=by kernel_rfl)(h2:z2a ops l.get i=some true:=by kernel_rfl)(h3:z12e P l.eval ops i h=z9f h j (some x):=by kernel_rfl):WL P w0 m0 N ops i Q l ds h:=by
 obtain⟨v,e,z1⟩:=z3 z;obtain⟨n,c1,z2⟩:=z3 z1;have c2:=z4e c1;subst c2;exact WL.val h1 h2 (h3.trans (zfb e)) (hk n z2)
theorem oC(hc:SaysAll P call)(d:Option Nat){f:FuncId}{args:List AV}{h1:AHeap}{k:AV→AHeap→R}(z:callN (call f args h1) k=some r)(hk:∀v h',k v h'=some r→WL P w0 m0 N ops (i+1) Q (l.put d v) ds h')(b1:z142 N ops i=some d:=by kernel_rfl)(b2:z2a ops l.get i=some true:=by kernel_rfl)(b3:z12e P l.eval ops i h=some (.call f args,h1):=by kernel_rfl):WL P w0 m0 N ops i Q l ds h:=by
 obtain⟨v,h',e,z1⟩:=z4d z;exact WL.call (hc.ok w0) b1 b2 b3 e (hk v h' z1)
theorem oCi(hc:SaysAll P call)(d:Nat){c:IntKind}{f:FuncId}{args:List AV}{h1:AHeap}{k:Int→AHeap→R}(z:(callN (call f args h1) fun v h'=>obind (avInt c v) fun n=>k n h')=some r)(hk:∀v h',k v h'=some r→WL P w0 m0 N ops (i+1) Q (l.put (some d) (.int c v)) ds h')(b1:z142 N ops i=some (some d):=by kernel_rfl)(b2:z2a ops l.get i=some true:=by kernel_rfl)(b3:z12e P l.eval ops i h=some (.call f args,h1):=by kernel_rfl):WL P w0 m0 N ops i Q l ds h:=by
 obtain⟨v,h',e,z1⟩:=z4d z;obtain⟨n,c1,z2⟩:=z3 z1;have c2:=z17 c1;subst c2;exact WL.call (hc.ok w0) b1 b2 b3 e (hk n h' z2)
theorem oCb(hc:SaysAll P call)(d:Nat){f:FuncId}{args:List AV}{h1:AHeap}{k:Bool→AHeap→R}(z:(callN (call f args h1) fun v h'=>obind (z23 v) fun n=>k n h')=some r)(hk:∀v h',k v h'=some r→WL P w0 m0 N ops (i+1) Q (l.put (some d) (.bool v)) ds h')(b1:z142 N ops i=some (some d):=by kernel_rfl)(b2:z2a ops l.get i=some true:=by kernel_rfl)(b3:z12e P l.eval ops i h=some (.call f args,h1):=by kernel_rfl):WL P w0 m0 N ops i Q l ds h:=by
 obtain⟨v,h',e,z1⟩:=z4d z;obtain⟨n,c1,z2⟩:=z3 z1;have c2:=z57 c1;subst c2;exact WL.call (hc.ok w0) b1 b2 b3 e (hk n h' z2)
theorem oCs(hc:SaysAll P call)(d:Nat){f:FuncId}{args:List AV}{h1:AHeap}{k:Bytes→AHeap→R}(z:(callN (call f args h1) fun v h'=>obind (z1c4 v) fun n=>k n h')=some r)(hk:∀v h',k v h'=some r→WL P w0 m0 N ops (i+1) Q (l.put (some d) (strA v)) ds h')(b1:z142 N ops i=some (some d):=by kernel_rfl)(b2:z2a ops l.get i=some true:=by kernel_rfl)(b3:z12e P l.eval ops i h=some (.call f args,h1):=by kernel_rfl):WL P w0 m0 N ops i Q l ds h:=by
 obtain⟨v,h',e,z1⟩:=z4d z;obtain⟨n,c1,z2⟩:=z3 z1;have c2:=z105 c1;subst c2;exact WL.call (hc.ok w0) b1 b2 b3 e (hk n h' z2)
theorem oCa(hc:SaysAll P call)(d:Nat){f:FuncId}{args:List AV}{h1:AHeap}{k:List AV→AHeap→R}(z:(callN (call f args h1) fun v h'=>obind (z65 v) fun n=>k n h')=some r)(hk:∀v h',k v h'=some r→WL P w0 m0 N ops (i+1) Q (l.put (some d) (.agg v)) ds h')(b1:z142 N ops i=some (some d):=by kernel_rfl)(b2:z2a ops l.get i=some true:=by kernel_rfl)(b3:z12e P l.eval ops i h=some (.call f args,h1):=by kernel_rfl):WL P w0 m0 N ops i Q l ds h:=by
 obtain⟨v,h',e,z1⟩:=z4d z;obtain⟨n,c1,z2⟩:=z3 z1;have c2:=z4e c1;subst c2;exact WL.call (hc.ok w0) b1 b2 b3 e (hk n h' z2)
theorem oK(d:Nat){x:za8}{k:AV→AHeap→R}(z:outK x k=some r)(hk:∀v h',k v h'=some r→WL P w0 m0 N ops (i+1) Q (l.put (some d) v) ds h')(b1:z142 N ops i=some (some d):=by kernel_rfl)(b2:z2a ops l.get i=some true:=by kernel_rfl)(b3:z12e P l.eval ops i h=x:=by kernel_rfl):WL P w0 m0 N ops i Q l ds h:=by
 obtain⟨v,h',e,z1⟩:=z3c z;exact WL.val b1 b2 (b3.trans e) (hk v h' z1)
theorem oT{c:Code}{a b:R}(z:ifB true a b=some r)(hk:a=some r→W P w0 m0 N (y4 c) Q l ds h)(hc:Code.kind c=2:=by kernel_rfl)(hv:l.eval (y40 c)=some (.bool true):=by kernel_rfl):W P w0 m0 N c Q l ds h:=y4f hc hv (hk z)
theorem oU{c:Code}{a b:R}(z:ifB false a b=some r)(hk:b=some r→W P w0 m0 N (y3 c) Q l ds h)(hc:Code.kind c=2:=by kernel_rfl)(hv:l.eval (y40 c)=some (.bool false):=by kernel_rfl):W P w0 m0 N c Q l ds h:=y4c hc hv (hk z)
theorem oG{c:Code}(hk:∀{K:Exit→Act→World→Prop},(∀{ds:z19c} {l:Fr} {h:AHeap},W P w0 m0 N (y3 c) Q l ds h→Go w0 m0 N (K .normal) l ds h)→W P w0 m0 N (y4 c) K l ds h)(hc:Code.kind c=1:=by kernel_rfl):W P w0 m0 N c Q l ds h:=y5d hc fun _ n _ _ _=>hk n
theorem oH{c:Code}(hk:∀{K:Exit→Act→World→Prop},(∀{ds:z19c} {l:Fr} {h:AHeap},W P w0 m0 N (y3 c) Q l ds h→Go w0 m0 N (K .normal) l ds h)→(∀{ds:z19c} {l:Fr} {h:AHeap},Go w0 m0 N (Q .ret) l ds h→Go w0 m0 N (K .ret) l ds h)→W P w0 m0 N (y4 c) K l ds h)(hc:Code.kind c=1:=by kernel_rfl):W P w0 m0 N c Q l ds h:=y5d hc fun _ n _ q _=>hk n q
theorem oJ{c:Code}(hk:∀{K:Exit→Act→World→Prop},(∀{ds:z19c} {l:Fr} {h:AHeap},W P w0 m0 N (y3 c) Q l ds h→Go w0 m0 N (K .normal) l ds h)→(∀{ds:z19c} {l:Fr} {v:AV} {h:AHeap},Pan w0 m0 N Q l ds v h→Pan w0 m0 N K l ds v h)→W P w0 m0 N (y4 c) K l ds h)(hc:Code.kind c=1:=by kernel_rfl):W P w0 m0 N c Q l ds h:=y5d hc fun _ n _ _ p=>hk n p
theorem oY{c:Code}(hk:Go w0 m0 N (Q .ret) l ds h)(hc:Code.kind c=6:=by kernel_rfl):W P w0 m0 N c Q l ds h:=W.ret hc hk
theorem oZ{c:Code}(hk:Go w0 m0 N (Q .normal) l ds h)(hc:Code.kind c=0:=by kernel_rfl):W P w0 m0 N c Q l ds h:=W.skip hc hk
theorem rT{g:Nat→Option AV}{t:Nat}{v:AV}{rs:List ResultVar}{vs:List AV}(k:z117 P g h rs=some vs)(e:g t=some v:=by kernel_rfl):z117 P g h (.tmp t::rs)=some (v::vs):=res_tmp e k
theorem rY{g:Nat→Option AV}{t ty n:Nat}{p:AV}{v:List AV}{rs:List ResultVar}{vs:List AV}(e2:z16 h n p=some v)(k:z117 P g h rs=some vs)(e:g t=some p:=by kernel_rfl)(ha:z195 P ty=some true:=by kernel_rfl)(hn:P.cellsOf ty=n:=by kernel_rfl):z117 P g h (.cell t ty::rs)=some (.agg v::vs):=z219 e (zb1 ha hn e2) k
theorem rC{g:Nat→Option AV}{t ty:Nat}{p v:AV}{rs:List ResultVar}{vs:List AV}(e2:z7 h p=some v)(k:z117 P g h rs=some vs)(e:g t=some p:=by kernel_rfl)(ha:z195 P ty=some false:=by kernel_rfl):z117 P g h (.cell t ty::rs)=some (v::vs):=z219 e (z14 ha e2) k
theorem lZ{fn:Func}{v:AV}{rR:ARes}{hR:AHeap}(z:some (ARes.ret v,h)=some (rR,hR))(rs:List ResultVar)(vs:List AV)(hv:z117 P l.get h rs=some vs)(hrs:fn.results.toList=rs:=by kernel_rfl)(hr:z365 h (some vs)=some (.ret v,h):=by kernel_rfl):Go w0 m0 N (Fin P fn w0 m0 rR hR .ret) l [] h:=by
 obtain⟨e1,e2⟩:=z24f z;subst e1;subst e2;exact leave_of hrs hv hr
theorem lY{fn:Func}{v:AV}{rR:ARes}{hR:AHeap}(z:some (ARes.ret v,h)=some (rR,hR))(rs:List ResultVar)(vs:List AV)(hv:z117 P l.get h rs=some vs)(hrs:fn.results.toList=rs:=by kernel_rfl)(hr:z365 h (some vs)=some (.ret v,h):=by kernel_rfl):Go w0 m0 N (Fin P fn w0 m0 rR hR .normal) l [] h:=by
 obtain⟨e1,e2⟩:=z24f z;subst e1;subst e2;exact z4ac hrs hv hr
theorem oD{plan:List Nat}{rs:List Rec}(k:Nat)(d:Option Nat)(hk:WD P w0 m0 N call ops plan rs K (l.put d (.tup [])) ds h)(h1:z142 N ops i=some d:=by kernel_rfl)(h2:z2a ops l.get i=some false:=by kernel_rfl)(h4:z2ee P ops i=k:=by kernel_rfl)(h5:Nat.beq k 2=false:=by kernel_rfl)(h6:Nat.beq k 9=false:=by kernel_rfl):WD P w0 m0 N call ops (i::plan) rs K l ds h:=WD.not h1 h2 h4 (fun e=>by subst e;cases h5) (fun e=>by subst e;cases h6) hk
theorem z370{l:Fr}:∀{l':Fr},l'.map (fun p=>l.get p.1)=l'.map (fun p=>some p.2)→l.sub l'
 |[],_=>y53 _
 |(t,v)::l',h=>by
  simp only[List.map_cons,List.cons.injEq] at h;exact y51 h.1 (z370 h.2)
theorem oV(l':Fr)(hk:Go w0 m0 N (Q .normal) l' ds h)(hs:l'.map (fun p=>l.get p.1)=l'.map (fun p=>some p.2):=by kernel_rfl)(hi:Nat.beq ops.size i=true:=by kernel_rfl):WL P w0 m0 N ops i Q l ds h:=WL.nil hi (Go.weaken (z370 hs) hk)
theorem gW(l':Fr)(hk:Go w0 m0 N K l' ds h)(hs:l'.map (fun p=>l.get p.1)=l'.map (fun p=>some p.2):=by kernel_rfl):Go w0 m0 N K l ds h:=Go.weaken (z370 hs) hk
theorem wW{c:Code}(l':Fr)(hk:W P w0 m0 N c Q l' ds h)(hs:l'.map (fun p=>l.get p.1)=l'.map (fun p=>some p.2):=by kernel_rfl):W P w0 m0 N c Q l ds h:=W.weaken (z370 hs) hk
theorem lW(l':Fr)(hk:WL P w0 m0 N ops i Q l' ds h)(hs:l'.map (fun p=>l.get p.1)=l'.map (fun p=>some p.2):=by kernel_rfl):WL P w0 m0 N ops i Q l ds h:=WL.weaken (z370 hs) hk
theorem Pf{v:AV}{h':AHeap}{fn:Func}{rR:ARes}{hR:AHeap}(q:(rR,hR)=(ARes.panic v,h')):Pan w0 m0 N (Fin P fn w0 m0 rR hR) l [] v h':=by
 cases q
 exact y5a
theorem oCK(hc:SaysAll P call)(d:Option Nat){f:FuncId}{args:List AV}{h1:AHeap}{k:AV→AHeap→R}(z:callK (call f args h1) k=some r)(hp:∀{v:AV} {h':AHeap},r=(.panic v,h')→Pan w0 m0 N Q l ds v h')(hk:∀v h',k v h'=some r→WL P w0 m0 N ops (i+1) Q (l.put d v) ds h')(b1:z142 N ops i=some d:=by kernel_rfl)(b2:z2a ops l.get i=some true:=by kernel_rfl)(b3:z12e P l.eval ops i h=some (.call f args,h1):=by kernel_rfl):WL P w0 m0 N ops i Q l ds h:=by
 rcases z328 z with⟨v,h',e,z1⟩|⟨v,h',e,q⟩
 ·exact WL.call (hc.ok w0) b1 b2 b3 e (hk v h' z1)
 ·exact y3d (hc.ok w0) b1 b2 b3 e (hp q)
theorem sO{f:FuncId}{fn:Func}{args:List AV}{rR:ARes}{hR:AHeap}(hf:P.funcs[f]? =some fn)(hw:∀w0 m0,W P w0 m0 fn.ntmps (z55 fn) (Fin P fn w0 m0 rR hR) (z1ea 0 args) [] h)(hb:fn.body=some (z55 fn):=by kernel_rfl)(hlen:Nat.ble args.length fn.ntmps=true:=by kernel_rfl):Says P f args h rR hR:=says_of hf hb hlen hw
end
structure Dec (α:Type) where
 dec:AV→Option α
 enc:α→AV
 ok:∀{x:AV} {a:α},dec x=some a→x=enc a
 eq:∀a:α,dec (enc a)=some a
def Di(k:IntKind):Dec Int:=⟨avInt k,.int k,z17,z4 k⟩
def Ds:Dec Bytes:=⟨z1c4,strA,z105,z6e⟩
def Da:Dec (List AV):=⟨z65,.agg,z4e,z11⟩
def Dv:Dec AV:=⟨some,fun x=>x,fun h=>by cases h;rfl,fun _=>rfl⟩
section
variable {α β γ δ ε ζ:Type}{P:Program}{id:FuncId}{h:AHeap}
def fn0(F:AHeap→R):FnT:=fun args h=>match args with
 |[]=>F h
 |_=>none
theorem fn0_eq(F:AHeap→R)(h:AHeap):fn0 F [] h=F h:=rfl
theorem z3a8{F:AHeap→R}(k:∀{h r h'},F h=some (r,h')→Says P id [] h r h'):z404 P id (fn0 F):=by
 intro args h r h2 e;unfold fn0 at e
 split at e
 ·exact k e
 ·cases e
def fn1(d0:Dec α)(F:α→AHeap→R):FnT:=fun args h=>match args with
 |[x0]=>obind (d0.dec x0) fun a0=>F a0 h
 |_=>none
theorem z99(d0:Dec α)(F:α→AHeap→R)(a0:α)(h:AHeap):fn1 d0 F [d0.enc a0] h=F a0 h:=by
 unfold fn1;dsimp only;rw[d0.eq,z14c]
theorem z28(d0:Dec α){F:α→AHeap→R}(k:∀{a0} {h r h'},F a0 h=some (r,h')→Says P id [d0.enc a0] h r h'):z404 P id (fn1 d0 F):=by
 intro args h r h2 e;unfold fn1 at e
 split at e
 ·replace e := z3 e; obtain ⟨a0, c0, e⟩ := e; have c0 := d0.ok c0; subst c0
  exact k e
 ·cases e
def fn2(d0:Dec α)(d1:Dec β)(F:α→β→AHeap→R):FnT:=fun args h=>match args with
 |[x0,x1]=>obind (d0.dec x0) fun a0=>obind (d1.dec x1) fun a1=>F a0 a1 h
 |_=>none
theorem z10f(d0:Dec α)(d1:Dec β)(F:α→β→AHeap→R)(a0:α)(a1:β)(h:AHeap):fn2 d0 d1 F [d0.enc a0,d1.enc a1] h=F a0 a1 h:=by
 unfold fn2;dsimp only;rw[d0.eq,z14c,d1.eq,z14c]
theorem z54(d0:Dec α)(d1:Dec β){F:α→β→AHeap→R}(k:∀{a0 a1} {h r h'},F a0 a1 h=some (r,h')→Says P id [d0.enc a0,d1.enc a1] h r h'):z404 P id (fn2 d0 d1 F):=by
 intro args h r h2 e;unfold fn2 at e
 split at e
 ·replace e := z3 e; obtain ⟨a0, c0, e⟩ := e; have c0 := d0.ok c0; subst c0
  replace e:=z3 e;obtain⟨a1,c1,e⟩:=e;have c1:=d1.ok c1;subst c1
  exact k e
 ·cases e
def fn3(d0:Dec α)(d1:Dec β)(d2:Dec γ)(F:α→β→γ→AHeap→R):FnT:=fun args h=>match args with
 |[x0,x1,x2]=>obind (d0.dec x0) fun a0=>obind (d1.dec x1) fun a1=>obind (d2.dec x2) fun a2=>F a0 a1 a2 h
 |_=>none
theorem z319(d0:Dec α)(d1:Dec β)(d2:Dec γ)(F:α→β→γ→AHeap→R)(a0:α)(a1:β)(a2:γ)(h:AHeap):fn3 d0 d1 d2 F [d0.enc a0,d1.enc a1,d2.enc a2] h=F a0 a1 a2 h:=by
 unfold fn3;dsimp only;rw[d0.eq,z14c,d1.eq,z14c,d2.eq,z14c]
theorem z179(d0:Dec α)(d1:Dec β)(d2:Dec γ){F:α→β→γ→AHeap→R}(k:∀{a0 a1 a2} {h r h'},F a0 a1 a2 h=some (r,h')→Says P id [d0.enc a0,d1.enc a1,d2.enc a2] h r h'):z404 P id (fn3 d0 d1 d2 F):=by
 intro args h r h2 e;unfold fn3 at e
 split at e
 ·replace e := z3 e; obtain ⟨a0, c0, e⟩ := e; have c0 := d0.ok c0; subst c0
  replace e:=z3 e;obtain⟨a1,c1,e⟩:=e;have c1:=d1.ok c1;subst c1
  replace e:=z3 e;obtain⟨a2,c2,e⟩:=e;have c2:=d2.ok c2;subst c2
  exact k e
 ·cases e
end
end
end Go.Proofs.YtcahhjjnihipdaaDoor.Abs
