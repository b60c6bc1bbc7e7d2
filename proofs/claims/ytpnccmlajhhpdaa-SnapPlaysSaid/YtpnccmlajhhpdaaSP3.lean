/- What snapPlays_proved stands on, part 3 of 10. -/
import Derived.Test.YtpnccmlajhhpdaaSP2
import Derived.RangeFuncCalls
import Derived.RangeFuncLeaves
import Derived.RangeFuncNested
import Derived.TacticsIn
import Derived.OrdersIn
namespace Go.Proofs.Ytpnccmlajhhpdaa.Abs
noncomputable section
open Go.RowKit
end
noncomputable section
open Go.RowKit
section
variable {P:Program}{m:Map}{w0:Base}{w:World}{lf:Nat}{call:z10}{H:AHeap}
theorem resA_ok{a:AAct}{act:Act}{h:AHeap}(hs:∀t,Slot m a act t)(F:Fits w0 m h w){r:ResultVar}{v:AV}(hr:resA P a h r=some v):
  ∃v',((match r with
   | .tmp t=>pure (act.tmps.getD t undef)
   | .cell a t=>do loadVar t (←asAddr (act.tmps.getD a undef)):Sem Value)).run P w=.ok v' w∧Rel m v v':=by
 cases r with
 |tmp t=>
  obtain⟨v',h1,h2⟩:=hs t v hr;exact⟨v',by simp[Array.getD_eq_getD_getElem?,h1],h2⟩
 |cell t ty=>
  simp only[resA] at hr
  split at hr
  ·rename_i u H1 hl
   simp only[Option.some.injEq] at hr;subst hr;obtain⟨_,b,o,_,_,hx,_,_⟩:=z43f hl
   rcases hx with hx|hx
   ·obtain ⟨p, h1, h2⟩ := hs t _ hx
    have:=z402 (P:=P) F (x':=p) (fun v hv=>by rw[hx] at hv;cases hv;exact h2) hl;obtain⟨v,v',e1,_,hrun,hv⟩:=this
    cases e1
    cases h2 with|ptr hm=>
    refine⟨v',?_,hv⟩;rw[←hrun]
    simp[Array.getD_eq_getD_getElem?,h1,asAddr,Instr.loadAt,Instr.sureAddr]
   ·obtain ⟨p, h1, h2⟩ := hs t _ hx
    have:=z402 (P:=P) F (x':=p) (fun v hv=>by rw[hx] at hv;cases hv;exact h2) hl;obtain⟨v,v',e1,_,hrun,hv⟩:=this
    cases e1
    cases h2;refine⟨v',?_,hv⟩;rw[←hrun]
    simp[Array.getD_eq_getD_getElem?,h1,asAddr,Instr.loadAt,Instr.sureAddr]
  ·cases hr
theorem z4b4{a:AAct}{act:Act}{h:AHeap}(hs:∀t,Slot m a act t)(F:Fits w0 m h w):∀(l:List ResultVar) (vs:List AV),z159 P a h l=some vs→
  ∃vs',(l.mapM (fun r=>(match r with
   | .tmp t=>pure (act.tmps.getD t undef)
   | .cell a t=>do loadVar t (←asAddr (act.tmps.getD a undef)):Sem Value))).run P w=.ok vs' w∧RelL m vs vs':=by
 intro l
 induction l with
 |nil=>
  intro vs h;simp only[z159,Option.some.injEq] at h;subst h;exact⟨[],by simp,.nil⟩
 |cons r l ih=>
  intro vs h;simp only[z159] at h
  split at h
  ·rename_i v vs1 h1 h2
   simp only[Option.some.injEq] at h;subst h;obtain⟨v',hv1,hv2⟩:=resA_ok hs F h1;obtain⟨vs',hs1,hs2⟩:=ih _ h2;refine⟨v'::vs',?_,.cons hv2 hs2⟩;rw[List.mapM_cons,Sem.run_bind,hv1,Result.andThen_ok,Sem.run_bind,hs1,Result.andThen_ok,Sem.run_pure]
  ·cases h
theorem z308{a:AAct}{act:Act}{h h':AHeap}{fn:Func}{r:ARes}(hs:∀t,Slot m a act t)(F:Fits w0 m h w)(hr:z3a6 h (z159 P a h fn.results.toList)=some (r,h')):
  ∃v v',r=.ret v∧h'=h∧(results fn act.tmps).run P w=.ok v' w∧Rel m v v':=by
 cases hall:z159 P a h fn.results.toList with
 |none=>rw[hall] at hr;cases hr
 |some vs=>
  rw[hall] at hr;obtain⟨vs',h1,h2⟩:=z4b4 hs F _ _ hall
  have hrun:(results fn act.tmps).run P w=.ok (if h:vs'.toArray.size=1 then vs'.toArray[0] else .tuple vs'.toArray) w:=by
   unfold results;rw[Sem.run_bind,Array.mapM_eq_mapM_toList]
   have fin:∀X:Sem (List Value),X.run P w=.ok vs' w→((List.toArray<$>X).run P w).andThen (fun (vs:Array Value) w'=>Sem.run P (pure (if h:vs.size=1 then vs[0] else Value.tuple vs)) w')=.ok (if h:vs'.toArray.size=1 then vs'.toArray[0] else .tuple vs'.toArray) w:=by
    intro X hX;simp only[Sem.run_map,hX];rfl
   exact fin _ h1
  have hl:=h2.length;unfold z3a6 at hr
  split at hr
  ·rename_i v e
   simp only[Option.some.injEq] at e;subst e;simp only[Option.some.injEq,Prod.mk.injEq] at hr;obtain⟨rfl,rfl⟩:=hr;cases h2 with|cons hv hn=>
   cases hn;exact⟨v,_,rfl,rfl,by rw[hrun];rfl,hv⟩
  ·rename_i l hno e
   simp only[Option.some.injEq] at e;subst e;simp only[Option.some.injEq,Prod.mk.injEq] at hr;obtain⟨rfl,rfl⟩:=hr;refine⟨_,.tuple vs'.toArray,rfl,rfl,?_,.tup h2⟩;rw[hrun]
   have:vs'.toArray.size≠1:=by
    intro h1;simp only[List.size_toArray] at h1;rw[h1] at hl
    match vs,hl with
    |[v],_=>exact hno v rfl
   rw[dif_neg this]
  ·cases hr
inductive RelU (m:Map):Option AV→FrameMode→Prop
 |ret:RelU m none .returning
 |panic {v:AV} {v':Value} (h:Rel m v v'):RelU m (some v) (.panicking [{v:=v',recovered:=false}])
inductive RelR (m:Map):Option AV→FrameMode→Prop
 |of {u:Option AV} {f:FrameMode} (h:RelU m u f):RelR m u f
 |done (v':Value):RelR m none (.panicking [{v:=v',recovered:=true}])
theorem RelR.settle{u:Option AV}{f:FrameMode}(h:RelR m u f):RelU m u (Go.settle f):=by
 cases h with
 |of h=>cases h with
  |ret=>exact .ret
  |panic h=>exact .panic h
 |done v=>exact .ret
theorem RelD.nil_eq{l:List Deferred}(h:RelD m [] l):l=[]:=by cases h;rfl
end
end
noncomputable section
open Go.RowKit
section
variable {P:Program}{m:Map}{w0:Base}{w:World}{lf:Nat}{call:z10}{H:AHeap}
theorem RetOK.ext{m m1:Map}(hm:Ext m m1){h':AHeap}{r:ARes}{e:Ending}{w':World}(hp:RetOK w0 m1 h' r e w'):RetOK w0 m h' r e w':=by
 obtain⟨m',h1,h2⟩:=hp;exact⟨m',hm.trans h1,h2⟩
theorem z481(W:World)(X:List Nat):Fits W [] ⟨0,X,.e⟩ W where
 pin k o hk:=by cases hk
 floor:=Nat.zero_le _
 below:=Below.refl _ _
 len:=rfl
 fresh b _:=y21 b
 wf b n t e h:=by
  have:(T.e:T AObj).get b=some (.row n t e):=h;rw[y21] at this;cases this
 row b n t e g s z h:=by
  have:(T.e:T AObj).get b=some (.row n t e):=h;rw[y21] at this;cases this
 map b es g s z h:=by
  have:(T.e:T AObj).get b=some (.map es):=h;rw[y21] at this;cases this
 glob b t h:=by
  have:(T.e:T AObj).get b=some (.glob t):=h;rw[y21] at this;cases this
 obj b q g s z h:=by
  have:(T.e:T AObj).get b=some (.obj q):=h;rw[y21] at this;cases this
 exact b n t e g s z h:=by
  have:(T.e:T AObj).get b=some (.row n t e):=h;rw[y21] at this;cases this
 ro b t g s z h:=by
  have:(T.e:T AObj).get b=some (.ro t):=h;rw[y21] at this;cases this
 sep b b' o o' g s z s' z' _ h:=by
  have:(T.e:T AObj).get b=some o:=h;rw[y21] at this;cases this
def saysTrue:Option (ARes×AHeap)→Bool
 |some (.ret (.bool b),_)=>b
 |_=>false
end
end
noncomputable section
open Go.RowKit
abbrev Fr:=List (Nat×AV)
def Fr.get:Fr→Nat→Option AV
 |[],_=>none
 |(i,v)::l,t=>match Nat.beq i t with
  |true=>some v
  |false=>Fr.get l t
def Fr.eval(l:Fr):Operand→Option AV
 | .tmp t=>l.get t
 | .const v=>zfb v
 | .global g=>some (.gptr g 0)
 | .func f=>some (.fn f [] [])
def Fr.tree:Fr→T AV
 |[]=>.e
 |(i,v)::l=>(Fr.tree l).set i v
theorem Fr.get_tree:∀(l:Fr) (t:Nat),l.tree.get t=l.get t
 |[],t=>y21 t
 |(i,v)::l,t=>by
  unfold Fr.get
  split
  ·rename_i h
   have:=Nat.eq_of_beq_eq_true h;subst this;exact y15 _ _ _
  ·rename_i h
   have:i≠t:=fun e=>by subst e;rw[Nat.beq_refl] at h;cases h
   rw[Fr.tree,y17 _ _ this];exact Fr.get_tree l t
theorem y10(l:Fr)(ds:List (FuncId×List AV×List AV)):(⟨l.tree,ds⟩:AAct).eval=l.eval:=by
 funext x
 cases x with
 |tmp t=>exact l.get_tree t
 |_=>rfl
theorem yf(l:Fr):l.tree.get=l.get:=by funext t;exact l.get_tree t
def Fr.sub(l l':Fr):Prop:=∀t v,l'.get t=some v→l.get t=some v
theorem y11(l:Fr):l.sub []:=fun _ _ h=>by cases h
theorem yc{l l':Fr}{t:Nat}{v:AV}(h:l.get t=some v)(k:l.sub l'):l.sub ((t,v)::l'):=fun u x hx=>by
 unfold Fr.get at hx
 split at hx
 ·rename_i e
  have:=Nat.eq_of_beq_eq_true e;subst this;simp only[Option.some.injEq] at hx;subst hx;exact h
 ·exact k u x hx
abbrev z8b:=List (FuncId×List AV×List AV)
section
variable (P:Program)(w0:Base)(m0:Map)(N:Nat)
def Go(Q:Act→World→Prop)(l:Fr)(ds:z8b)(h:AHeap):Prop:=∀(m:Map) (act:Act) (w:World),Ext m0 m→RelAct m N ⟨l.tree,ds⟩ act→Fits w0 m h w→Q act w
def W(c:Code)(Q:Exit→Act→World→Prop)(l:Fr)(ds:z8b)(h:AHeap):Prop:=Go w0 m0 N (c.wp P Q) l ds h
def WL(ops:Array Oper)(i:Nat)(Q:Exit→Act→World→Prop)(l:Fr)(ds:z8b)(h:AHeap):Prop:=Go w0 m0 N (wpList P ops Q (ops.toList.drop i)) l ds h
def InL(c:Code)(Q:Exit→Act→World→Prop)(act:Act)(w:World):Prop:=∀(b:Frame) (k:List Item) (cs:List Frame),∃e a' w',Q e a' w'∧Arrives P (lone (b.at act (.code c:: .inLoop c::k)) cs w) b k cs e a' w'
end
section
variable {P:Program}{w0:Base}{m0:Map}{N:Nat}{l l':Fr}{ds:z8b}{h h':AHeap}{Q:Exit→Act→World→Prop}{K:Act→World→Prop}
theorem RelAct.weaken{m:Map}{act:Act}(hs:l.sub l')(hr:RelAct m N ⟨l.tree,ds⟩ act):RelAct m N ⟨l'.tree,ds⟩ act where
 size:=hr.size
 tmps t:=fun v hv=>hr.tmps t v (by
  have hv:l'.tree.get t=some v:=hv;rw[Fr.get_tree] at hv;show l.tree.get t=some v;rw[Fr.get_tree];exact hs t v hv)
 defers:=hr.defers
theorem Go.weaken(hs:l.sub l')(hk:Go w0 m0 N K l' ds h):Go w0 m0 N K l ds h:=fun m act w he ha F=>hk m act w he (ha.weaken hs) F
theorem W.weaken{c:Code}(hs:l.sub l')(hk:W P w0 m0 N c Q l' ds h):W P w0 m0 N c Q l ds h:=Go.weaken hs hk
theorem WL.weaken{ops:Array Oper}{i:Nat}(hs:l.sub l')(hk:WL P w0 m0 N ops i Q l' ds h):WL P w0 m0 N ops i Q l ds h:=Go.weaken hs hk
def y6:Code→Code
 | .seq x _=>x
 | .cond _ x _=>x
 | .block _ x=>x
 | .loop x=>x
 | .scope x=>x
 |c=>c
def y5:Code→Code
 | .seq _ y=>y
 | .cond _ _ y=>y
 |c=>c
def y24:Code→Operand
 | .cond c _ _=>c
 |_=>.tmp 0
def Code.num:Code→Nat
 | .block id _=>id
 | .exit id=>id
 |_=>0
def Code.ops:Code→Array Oper
 | .region _ ops _=>ops
 |_=> #[]
def Code.kind:Code→Nat
 | .skip=>0
 | .seq _ _=>1
 | .cond _ _ _=>2
 | .block _ _=>3
 | .loop _=>4
 | .exit _=>5
 | .ret=>6
 | .region _ _ false=>7
 | .region _ _ true=>8
 |_=>9
theorem W.skip{c:Code}(hc:Code.kind c=0)(hk:Go w0 m0 N (Q .normal) l ds h):W P w0 m0 N c Q l ds h:=by
 cases c<;>first|(exact fun m act w he ha F=>wp_skip (hk m act w he ha F))|(simp[Code.kind] at hc;done)|(rename_i d;cases d<;>simp[Code.kind] at hc)
theorem W.seq{c:Code}(hc:Code.kind c=1)(hk:W P w0 m0 N (y6 c) (Exit.then ((y5 c).wp P Q) Q) l ds h):W P w0 m0 N c Q l ds h:=by
 cases c<;>first|(exact fun m act w he ha F=>wp_seq (hk m act w he ha F))|(simp[Code.kind] at hc;done)|(rename_i d;cases d<;>simp[Code.kind] at hc)
theorem W.cond_true{c:Code}(hc:Code.kind c=2)(hv:l.eval (y24 c)=some (.bool true))(hk:W P w0 m0 N (y6 c) Q l ds h):W P w0 m0 N c Q l ds h:=by
 cases c<;>first|(exact fun m act w he ha F=>wp_cond_true (zb1 (z19d (a:=⟨l.tree,ds⟩) (fun t _=>ha.tmps t) _ (by rw[y10];exact hv))) (hk m act w he ha F))|(simp[Code.kind] at hc;done)|(rename_i d;cases d<;>simp[Code.kind] at hc)
theorem W.cond_false{c:Code}(hc:Code.kind c=2)(hv:l.eval (y24 c)=some (.bool false))(hk:W P w0 m0 N (y5 c) Q l ds h):W P w0 m0 N c Q l ds h:=by
 cases c<;>first|(exact fun m act w he ha F=>wp_cond_false (zb1 (z19d (a:=⟨l.tree,ds⟩) (fun t _=>ha.tmps t) _ (by rw[y10];exact hv))) (hk m act w he ha F))|(simp[Code.kind] at hc;done)|(rename_i d;cases d<;>simp[Code.kind] at hc)
theorem W.block{c:Code}(hc:Code.kind c=3)(hk:W P w0 m0 N (y6 c) (Exit.inBlock (Code.num c) Q) l ds h):W P w0 m0 N c Q l ds h:=by
 cases c<;>first|(exact fun m act w he ha F=>wp_block (hk m act w he ha F))|(simp[Code.kind] at hc;done)|(rename_i d;cases d<;>simp[Code.kind] at hc)
theorem W.exit{c:Code}(hc:Code.kind c=5)(hk:Go w0 m0 N (Q (.exit (Code.num c))) l ds h):W P w0 m0 N c Q l ds h:=by
 cases c<;>first|(exact fun m act w he ha F=>wp_exit (hk m act w he ha F))|(simp[Code.kind] at hc;done)|(rename_i d;cases d<;>simp[Code.kind] at hc)
theorem W.ret{c:Code}(hc:Code.kind c=6)(hk:Go w0 m0 N (Q .ret) l ds h):W P w0 m0 N c Q l ds h:=by
 cases c<;>first|(exact fun m act w he ha F=>wp_ret (hk m act w he ha F))|(simp[Code.kind] at hc;done)|(rename_i d;cases d<;>simp[Code.kind] at hc)
theorem z134{c:Code}{e:Exit}{m:Machine}{b:Frame}{k:List Item}{cs:List Frame}{a:Act}{w:World}(hne:e≠ .normal)(harr:Arrives P m b (.inLoop c::k) cs e a w):Arrives P m b k cs e a w:=
 .pass (x:=.inLoop c) rfl (fun _ _=>.inl hne) harr
theorem InL.round{c:Code}{act:Act}{w:World}(hk:c.wp P (Exit.then (InL P c Q) Q) act w):InL P c Q act w:=by
 intro b k cs;obtain⟨e1,a1,w1,hq,harr⟩:=hk b (.inLoop c::k) cs
 cases e1 with
 |normal=>
  obtain⟨e3,a3,w3,hq3,harr3⟩:=hq b k cs;exact⟨e3,a3,w3,hq3,.of_steps (Steps.trans harr (.one step_inLoop)) harr3⟩
 |exit id=>exact⟨_,a1,w1,hq,z134 (by simp) harr⟩
 |goto l=>exact⟨_,a1,w1,hq,z134 (by simp) harr⟩
 |ret=>exact⟨_,a1,w1,hq,z134 (by simp) harr⟩
 |panic ch=>exact⟨_,a1,w1,hq,z134 (by simp) harr⟩
 |outgrown=>exact⟨_,a1,w1,hq,z134 (by simp) harr⟩
theorem z3bc{c:Code}(hc:Code.kind c=4):∃x,c=.loop x:=by
 cases c<;>first|exact⟨_,rfl⟩|(simp[Code.kind] at hc;done)|(rename_i d;cases d<;>simp[Code.kind] at hc)
theorem W.loop{c:Code}(hc:Code.kind c=4)(hk:Go w0 m0 N (InL P (y6 c) Q) l ds h):W P w0 m0 N c Q l ds h:=by
 obtain⟨x,rfl⟩:=z3bc hc;intro m act w he ha F b k cs;obtain⟨e,a',w',q,r⟩:=hk m act w he ha F b k cs;exact⟨e,a',w',q,.of_steps (.one step_loop) r⟩
theorem Go.round{c:Code}(hk:W P w0 m0 N c (Exit.then (InL P c Q) Q) l ds h):Go w0 m0 N (InL P c Q) l ds h:=fun m act w he ha F=>InL.round (hk m act w he ha F)
theorem W.region{c:Code}(hc:Code.kind c=7)(hk:WL P w0 m0 N (Code.ops c) 0 Q l ds h):W P w0 m0 N c Q l ds h:=by
 cases c with
 |region id ops d=>cases d with
  |false=>exact fun m act w he ha F=>wp_region_list (hk m act w he ha F)
  |true=>simp[Code.kind] at hc
 |_=>simp[Code.kind] at hc
theorem WL.nil{ops:Array Oper}{i:Nat}(hi:Nat.beq ops.size i=true)(hk:Go w0 m0 N (Q .normal) l ds h):WL P w0 m0 N ops i Q l ds h:=by
 intro m act w he ha F
 have:ops.toList.drop i=[]:=by
  have:=Nat.eq_of_beq_eq_true hi
  simp[←this]
 rw[this];exact hk m act w he ha F
def z145(N:Nat)(ops:Array Oper)(i:Nat):Option (Option Nat):=match ops[i]? with
 |some o=>match z139 N o with
  |true=>some o.dst
  |false=>none
 |none=>none
def zd1(P:Program)(ρ:z1be)(ops:Array Oper)(i:Nat)(h:AHeap):z8a:=match ops[i]? with
 |some o=>opA P ρ o h
 |none=>none
def z1d(ops:Array Oper)(tm:Nat→Option AV)(i:Nat):Option Bool:=match ops[i]? with
 |some o=>z41 ops tm o.guard
 |none=>none
def Fr.put(l:Fr):Option Nat→AV→Fr
 |some d,v=>(d,v)::l
 |none,_=>l
theorem y14(l:Fr)(d:Option Nat)(v:AV)(ds:z8b):(⟨l.tree,ds⟩:AAct).put d v=⟨(l.put d v).tree,ds⟩:=by
 cases d<;>rfl
theorem WL.step{ops:Array Oper}{i:Nat}{o:Oper}{call:z10}(ho:ops[i]? =some o)(hd:z139 N o=true)(hc:ze2 P w0 call){d:Option Nat}{v:AV}{ds':z8b}(hst:z136 P call ops o ⟨l.tree,ds⟩ h=some (.go ⟨(l.put d v).tree,ds'⟩ h'))(hk:WL P w0 m0 N ops (i+1) Q (l.put d v) ds' h'):WL P w0 m0 N ops i Q l ds h:=by
 intro m act w he ha F
 have hl:i<ops.toList.length:=by
  rcases Array.getElem?_eq_some_iff.1 ho with⟨h1,_⟩
  simpa using h1
 have hdrop:ops.toList.drop i=o::ops.toList.drop (i+1):=by
  rw[List.drop_eq_getElem_cons hl]
  congr 1
  rcases Array.getElem?_eq_some_iff.1 ho with⟨h1,h2⟩
  simpa using h2
 rw[hdrop,wpList];refine z29d hc ha F hd hst (fun a' h2 e m' act' w' he' ha' F'=>?_) (fun v h2 e=>by cases e);simp only[AStep.go.injEq] at e;obtain⟨rfl,rfl⟩:=e;exact hk m' act' w' (he.trans he') ha' F'
theorem y42{ops:Array Oper}{i:Nat}{o:Oper}{call:z10}(ho:ops[i]? =some o)(hd:z139 N o=true)(hc:ze2 P w0 call){v:AV}(hst:z136 P call ops o ⟨l.tree,ds⟩ h=some (.panic v h'))(hk:∀v' m,Ext m0 m→Rel m v v'→∀act w,RelAct m N ⟨l.tree,ds⟩ act→Fits w0 m h' w→Q (.panic [{v:=v',recovered:=false}]) act w):WL P w0 m0 N ops i Q l ds h:=by
 intro m act w he ha F
 have hl:i<ops.toList.length:=by
  rcases Array.getElem?_eq_some_iff.1 ho with⟨h1,_⟩
  simpa using h1
 have hdrop:ops.toList.drop i=o::ops.toList.drop (i+1):=by
  rw[List.drop_eq_getElem_cons hl]
  congr 1
  rcases Array.getElem?_eq_some_iff.1 ho with⟨h1,h2⟩
  simpa using h2
 rw[hdrop,wpList];refine z29d hc ha F hd hst (fun a' h2 e=>by cases e) (fun v2 h2 e m' w' v' he' F' hv=>?_);simp only[AStep.panic.injEq] at e;obtain⟨rfl,rfl⟩:=e;exact hk v' m' (he.trans he') hv act w' (ha.mono he'.le) F'
theorem z167{ops:Array Oper}{i:Nat}{d:Option Nat}(hd:z145 N ops i=some d):∃o,ops[i]? =some o∧z139 N o=true∧o.dst=d:=by
 unfold z145 at hd
 split at hd
 ·rename_i o ho
  split at hd
  ·rename_i hk
   simp only[Option.some.injEq] at hd;exact⟨o,ho,hk,hd⟩
  ·cases hd
 ·cases hd
def z1c9:z10:=fun _ _ _=>none
theorem z161:ze2 P w0 z1c9:=fun _ _ _ _ _ h=>by cases h
theorem WL.val{ops:Array Oper}{i:Nat}{d:Option Nat}{v:AV}(hd:z145 N ops i=some d)(hw:z1d ops l.get i=some true)(hop:zd1 P l.eval ops i h=some (.val v,h'))(hk:WL P w0 m0 N ops (i+1) Q (l.put d v) ds h'):WL P w0 m0 N ops i Q l ds h:=by
 obtain⟨o,ho,hok,rfl⟩:=z167 hd;refine WL.step (v:=v) (d:=o.dst) (ds':=ds) (call:=z1c9) ho hok z161 ?_ hk;have hw:z41 ops l.get o.guard=some true:=by simpa [z1d,ho] using hw
 have hop:opA P l.eval o h=some (.val v,h'):=by simpa [zd1,ho] using hop
 simp only[z136,yf,hw,y10,hop,ze7,z39,y14]
theorem WL.eff{ops:Array Oper}{i:Nat}(hd:z145 N ops i=some none)(hw:z1d ops l.get i=some true)(hop:zd1 P l.eval ops i h=some (.skip,h'))(hk:WL P w0 m0 N ops (i+1) Q l ds h'):WL P w0 m0 N ops i Q l ds h:=by
 obtain⟨o,ho,hok,hdn⟩:=z167 hd;refine WL.step (v:=.tup []) (d:=none) (ds':=ds) (call:=z1c9) ho hok z161 ?_ hk;have hw:z41 ops l.get o.guard=some true:=by simpa [z1d,ho] using hw
 have hop:opA P l.eval o h=some (.skip,h'):=by simpa [zd1,ho] using hop
 simp only[z136,yf,hw,y10,hop,ze7,z39,y14,hdn]
theorem WL.not{ops:Array Oper}{i:Nat}{d:Option Nat}(hd:z145 N ops i=some d)(hw:z1d ops l.get i=some false)(hk:WL P w0 m0 N ops (i+1) Q (l.put d (.tup [])) ds h):WL P w0 m0 N ops i Q l ds h:=by
 obtain⟨o,ho,hok,rfl⟩:=z167 hd;refine WL.step (v:=.tup []) (d:=o.dst) (ds':=ds) (call:=z1c9) ho hok z161 ?_ hk;have hw:z41 ops l.get o.guard=some false:=by simpa [z1d,ho] using hw
 simp only[z136,yf,hw,z39,y14]
theorem WL.call{call:z10}(hc:ze2 P w0 call){ops:Array Oper}{i:Nat}{d:Option Nat}{f:FuncId}{args:List AV}{v:AV}{h1:AHeap}(hd:z145 N ops i=some d)(hw:z1d ops l.get i=some true)(hop:zd1 P l.eval ops i h=some (.call f args,h1))(hcall:call f args h1=some (.ret v,h'))(hk:WL P w0 m0 N ops (i+1) Q (l.put d v) ds h'):WL P w0 m0 N ops i Q l ds h:=by
 obtain⟨o,ho,hok,rfl⟩:=z167 hd;refine WL.step (v:=v) (d:=o.dst) (ds':=ds) (call:=call) ho hok hc ?_ hk;have hw:z41 ops l.get o.guard=some true:=by simpa [z1d,ho] using hw
 have hop:opA P l.eval o h=some (.call f args,h1):=by simpa [zd1,ho] using hop
 simp only[z136,yf,hw,y10,hop,ze7,hcall,z155,z39,y14]
theorem y43{call:z10}(hc:ze2 P w0 call){ops:Array Oper}{i:Nat}{d:Option Nat}{f:FuncId}{args:List AV}{v:AV}{h1:AHeap}(hd:z145 N ops i=some d)(hw:z1d ops l.get i=some true)(hop:zd1 P l.eval ops i h=some (.call f args,h1))(hcall:call f args h1=some (.panic v,h'))(hk:∀v' m,Ext m0 m→Rel m v v'→∀act w,RelAct m N ⟨l.tree,ds⟩ act→Fits w0 m h' w→Q (.panic [{v:=v',recovered:=false}]) act w):WL P w0 m0 N ops i Q l ds h:=by
 obtain⟨o,ho,hok,rfl⟩:=z167 hd;refine y42 (call:=call) ho hok hc ?_ hk;have hw:z41 ops l.get o.guard=some true:=by simpa [z1d,ho] using hw
 have hop:opA P l.eval o h=some (.call f args,h1):=by simpa [zd1,ho] using hop
 simp only[z136,yf,hw,y10,hop,ze7,hcall,z155]
theorem WL.pan{ops:Array Oper}{i:Nat}{d:Option Nat}{v:AV}(hd:z145 N ops i=some d)(hw:z1d ops l.get i=some true)(hop:zd1 P l.eval ops i h=some (.panic v,h'))(hk:∀v' m,Ext m0 m→Rel m v v'→∀act w,RelAct m N ⟨l.tree,ds⟩ act→Fits w0 m h' w→Q (.panic [{v:=v',recovered:=false}]) act w):WL P w0 m0 N ops i Q l ds h:=by
 obtain⟨o,ho,hok,rfl⟩:=z167 hd;refine y42 (call:=z1c9) ho hok z161 ?_ hk;have hw:z41 ops l.get o.guard=some true:=by simpa [z1d,ho] using hw
 have hop:opA P l.eval o h=some (.panic v,h'):=by simpa [zd1,ho] using hop
 simp only[z136,yf,hw,y10,hop,ze7]
def WD(P:Program)(w0:Base)(m0:Map)(N:Nat)(call:z10)(ops:Array Oper)(plan:List Nat)(rs:List Rec)(K:Act→World→Prop)(l:Fr)(ds:z8b)(h:AHeap):Prop:=
 ∃(l':Fr) (h':AHeap),dGo P call ops plan ⟨l.tree,ds⟩ h rs=some (.normal,⟨l'.tree,ds⟩,h')∧Go w0 m0 N K l' ds h'
theorem W.draw(hm:P.follows .mixedOrders=true){call:z10}(hc:ze2 P w0 call){c:Code}{plan:List Nat}(hk:Code.kind c=8)(hok:z3fb N (Code.ops c).toList=true)(hp:z2ab P (Code.ops c)=some plan)(hd:WD P w0 m0 N call (Code.ops c) plan [] (Q .normal) l ds h):W P w0 m0 N c Q l ds h:=by
 cases c with
 |region id ops d=>cases d with
  |true=>
   intro m act w he ha F;obtain⟨l',h',hgo,hq⟩:=hd
   have hdraw:z374 P call ops ⟨l.tree,ds⟩ h=some (.normal,⟨l'.tree,ds⟩,h'):=by
    unfold z374;have hp:z2ab P ops=some plan:=hp;rw[hp];exact hgo
   refine wp_mono (draw_ok hm hc (z3b3 _ hok) ha F hdraw) ?_
   rintro e' act2 w2 ⟨m2,hx,ha2,F2,hex⟩
   cases hex;exact hq m2 act2 w2 (he.trans hx) ha2 F2
  |false=>simp[Code.kind] at hk
 |_=>simp[Code.kind] at hk
theorem WD.nil{call:z10}{ops:Array Oper}{rs:List Rec}(hk:Go w0 m0 N K l ds h):WD P w0 m0 N call ops [] rs K l ds h:=⟨l,h,rfl,hk⟩
def z2f3(P:Program)(ops:Array Oper)(i:Nat):Nat:=match ops[i]? with
 |some o=>match z1b8 P ops i o.op with
  |0=>0
  |3=>2
  |_=>1
 |none=>9
def z3aa(P:Program)(ops:Array Oper)(i:Nat)(l:Fr)(h:AHeap):Rec:=match ops[i]? with
 |some o=>⟨i,o,h.next,z202 o.op,ze6 P ⟨l.tree,[]⟩ o.op⟩
 |none=>⟨i,default,0,0,[]⟩
theorem z41d(P:Program)(t:T AV)(ds:z8b)(o:Op):ze6 P ⟨t,ds⟩ o=ze6 P ⟨t,[]⟩ o:=by
 unfold ze6
 split
 ·rfl
 ·rename_i x
  have:(⟨t,ds⟩:AAct).eval x=(⟨t,[]⟩:AAct).eval x:=by cases x<;>rfl
  rw[this]
 ·rfl
def z472(k:Nat)(r:Rec)(rs:List Rec):List Rec:=match k with
 |1=>r::rs
 |_=>rs
theorem WD.step{call:z10}{ops:Array Oper}{i:Nat}{plan:List Nat}{rs:List Rec}{o:Oper}{d:Option Nat}{v:AV}{k:Nat}(ho:ops[i]? =some o)(hst:z136 P call ops o ⟨l.tree,ds⟩ h=some (.go ⟨(l.put d v).tree,ds⟩ h'))(hkind:z2f3 P ops i=k)(hwant:z1d ops l.get i=some true∨k≠1)(hrec:k=2→z1aa (z2ee P ops i ⟨(l.put d v).tree,ds⟩ h') rs=true)(hk9:k≠9)(hk:WD P w0 m0 N call ops plan (z472 k (z3aa P ops i l h) rs) K (l.put d v) ds h'):WD P w0 m0 N call ops (i::plan) rs K l ds h:=by
 obtain⟨l2,h2,hgo,hq⟩:=hk;refine⟨l2,h2,?_,hq⟩;unfold dGo;simp only[ho,hst];unfold z2f3 at hkind;simp only[ho] at hkind
 split at hkind
 ·rename_i hx
  subst hkind;simp only[hx];exact hgo
 ·rename_i hx
  subst hkind;simp only[hx,hrec rfl,if_true];exact hgo
 ·rename_i h0 h3
  subst hkind
  split
  ·rename_i e;exact absurd e h0
  ·rename_i e;exact absurd e h3
  ·have hw : z41 ops l.get o.guard = some true := by
    rcases hwant with hw|hw
    ·simpa [z1d,ho] using hw
    ·exact absurd rfl hw
   simp only[yf,hw]
   have:z3aa P ops i l h=⟨i,o,h.next,z202 o.op,ze6 P ⟨l.tree,ds⟩ o.op⟩:=by
    simp only[z3aa,ho,z41d P l.tree ds]
   rw[←this];exact hgo
theorem WD.val{call:z10}{ops:Array Oper}{i:Nat}{plan:List Nat}{rs:List Rec}{d:Option Nat}{v:AV}{k:Nat}(hd:z145 N ops i=some d)(hw:z1d ops l.get i=some true)(hop:zd1 P l.eval ops i h=some (.val v,h'))(hkind:z2f3 P ops i=k)(hrec:k=2→z1aa (z2ee P ops i ⟨(l.put d v).tree,ds⟩ h') rs=true)(hk9:k≠9)(hk:WD P w0 m0 N call ops plan (z472 k (z3aa P ops i l h) rs) K (l.put d v) ds h'):WD P w0 m0 N call ops (i::plan) rs K l ds h:=by
 obtain⟨o,ho,hok,rfl⟩:=z167 hd;refine WD.step ho ?_ hkind (.inl hw) hrec hk9 hk;have hw:z41 ops l.get o.guard=some true:=by simpa [z1d,ho] using hw
 have hop:opA P l.eval o h=some (.val v,h'):=by simpa [zd1,ho] using hop
 simp only[z136,yf,hw,y10,hop,ze7,z39,y14]
theorem WD.eff{call:z10}{ops:Array Oper}{i:Nat}{plan:List Nat}{rs:List Rec}{k:Nat}(hd:z145 N ops i=some none)(hw:z1d ops l.get i=some true)(hop:zd1 P l.eval ops i h=some (.skip,h'))(hkind:z2f3 P ops i=k)(hrec:k=2→z1aa (z2ee P ops i ⟨l.tree,ds⟩ h') rs=true)(hk9:k≠9)(hk:WD P w0 m0 N call ops plan (z472 k (z3aa P ops i l h) rs) K l ds h'):WD P w0 m0 N call ops (i::plan) rs K l ds h:=by
 obtain⟨o,ho,hok,hdn⟩:=z167 hd;refine WD.step (d:=none) (v:=.tup []) ho ?_ hkind (.inl hw) hrec hk9 hk;have hw:z41 ops l.get o.guard=some true:=by simpa [z1d,ho] using hw
 have hop:opA P l.eval o h=some (.skip,h'):=by simpa [zd1,ho] using hop
 simp only[z136,yf,hw,y10,hop,ze7,z39,y14,hdn]
theorem WD.call{call:z10}{ops:Array Oper}{i:Nat}{plan:List Nat}{rs:List Rec}{d:Option Nat}{f:FuncId}{args:List AV}{v:AV}{h1:AHeap}{k:Nat}(hd:z145 N ops i=some d)(hw:z1d ops l.get i=some true)(hop:zd1 P l.eval ops i h=some (.call f args,h1))(hcall:call f args h1=some (.ret v,h'))(hkind:z2f3 P ops i=k)(hrec:k=2→z1aa (z2ee P ops i ⟨(l.put d v).tree,ds⟩ h') rs=true)(hk9:k≠9)(hk:WD P w0 m0 N call ops plan (z472 k (z3aa P ops i l h) rs) K (l.put d v) ds h'):WD P w0 m0 N call ops (i::plan) rs K l ds h:=by
 obtain⟨o,ho,hok,rfl⟩:=z167 hd;refine WD.step ho ?_ hkind (.inl hw) hrec hk9 hk;have hw:z41 ops l.get o.guard=some true:=by simpa [z1d,ho] using hw
 have hop:opA P l.eval o h=some (.call f args,h1):=by simpa [zd1,ho] using hop
 simp only[z136,yf,hw,y10,hop,ze7,hcall,z155,z39,y14]
theorem WD.not{call:z10}{ops:Array Oper}{i:Nat}{plan:List Nat}{rs:List Rec}{d:Option Nat}{k:Nat}(hd:z145 N ops i=some d)(hw:z1d ops l.get i=some false)(hkind:z2f3 P ops i=k)(hrec:k=2→z1aa (z2ee P ops i ⟨(l.put d (.tup [])).tree,ds⟩ h) rs=true)(hk9:k≠9)(hk:WD P w0 m0 N call ops plan rs K (l.put d (.tup [])) ds h):WD P w0 m0 N call ops (i::plan) rs K l ds h:=by
 obtain⟨o,ho,hok,rfl⟩:=z167 hd;have hw:z41 ops l.get o.guard=some false:=by simpa [z1d,ho] using hw
 have hst:z136 P call ops o ⟨l.tree,ds⟩ h=some (.go ⟨(l.put o.dst (.tup [])).tree,ds⟩ h):=by
  simp only[z136,yf,hw,z39,y14]
 obtain⟨l2,h2,hgo,hq⟩:=hk;refine⟨l2,h2,?_,hq⟩;unfold dGo;simp only[ho,hst];unfold z2f3 at hkind;simp only[ho] at hkind
 split at hkind
 ·rename_i hx
  subst hkind;simp only[hx];exact hgo
 ·rename_i hx
  subst hkind;simp only[hx,hrec rfl,if_true];exact hgo
 ·rename_i h0 h3
  subst hkind
  split
  ·rename_i e;exact absurd e h0
  ·rename_i e;exact absurd e h3
  ·simp only [yf, hw]
   exact hgo
end
end
noncomputable section
open Go.RowKit
def Says(P:Program)(f:FuncId)(args:List AV)(h:AHeap)(r:ARes)(h':AHeap):Prop:=
 ∀(w0:Base) (m:Map) (w:World) (args':List Value),RelL m args args'→Fits w0 m h w→Calls P f ⟨args'⟩ w (RetOK w0 m h' r)
def SaysAll(P:Program)(call:z10):Prop:=∀(f:FuncId) (args:List AV) (h:AHeap) (r:ARes) (h':AHeap),call f args h=some (r,h')→Says P f args h r h'
theorem SaysAll.ok{P:Program}{call:z10}(hs:SaysAll P call)(w0:Base):ze2 P w0 call:=fun f args h r h' hr m w args' ha F=>hs f args h r h' hr w0 m w args' ha F
theorem SaysAll.of{P:Program}{call:z10}(hs:∀w0,ze2 P w0 call):SaysAll P call:=fun f args h r h' hr w0 m w args' ha F=>hs w0 f args h r h' hr m w args' ha F
abbrev FnT:=List AV→AHeap→Option (ARes×AHeap)
def z376(P:Program)(f:FuncId)(s:FnT):Prop:=∀(args:List AV) (h:AHeap) (r:ARes) (h':AHeap),s args h=some (r,h')→Says P f args h r h'
def z184:List (FuncId×FnT)→z10
 |[],_,_,_=>none
 |(g,s)::l,f,args,h=>match Nat.beq g f with
  |true=>s args h
  |false=>z184 l f args h
theorem z32b{P:Program}:SaysAll P (z184 []):=fun _ _ _ _ _ h=>by cases h
theorem z9{P:Program}{g:FuncId}{s:FnT}{l:List (FuncId×FnT)}(hs:z376 P g s)(hl:SaysAll P (z184 l)):SaysAll P (z184 ((g,s)::l)):=by
 intro f args h r h' hr;unfold z184 at hr
 split at hr
 ·rename_i e
  have:=Nat.eq_of_beq_eq_true e;subst this;exact hs _ _ _ _ hr
 ·exact hl _ _ _ _ _ hr
def resG(P:Program)(g:Nat→Option AV)(h:AHeap):ResultVar→Option AV
 | .tmp t=>g t
 | .cell t ty=>match za4 P h ty (g t) with
  |some (.val v,_)=>some v
  |_=>none
def z119(P:Program)(g:Nat→Option AV)(h:AHeap):List ResultVar→Option (List AV)
 |[]=>some []
 |r::l=>match resG P g h r,z119 P g h l with
  |some v,some vs=>some (v::vs)
  |_,_=>none
theorem z342(P:Program)(a:AAct)(h:AHeap):∀(l:List ResultVar),z119 P a.tmps.get h l=z159 P a h l
 |[]=>rfl
 |r::l=>by
  have h1:resG P a.tmps.get h r=resA P a h r:=by cases r<;>rfl
  simp only[z119,z159,z342 P a h l,h1]
  cases resA P a h r<;>cases z159 P a h l<;>rfl
section
variable {P:Program}{w0:Base}{m0:Map}{N:Nat}{l l':Fr}{ds:z8b}{h h':AHeap}{r:ARes}
abbrev Fin(P:Program)(fn:Func)(w0:Base)(m0:Map)(r:ARes)(h':AHeap):Exit→Act→World→Prop:=bodyPostD P fn (RetOK w0 m0 h' r)
theorem y47{fn:Func}(hr:z3a6 h (z119 P l.get h fn.results.toList)=some (r,h')):Go w0 m0 N (Fin P fn w0 m0 r h' .ret) l [] h:=by
 intro m act w he ha F
 have hr:z3a6 h (z159 P ⟨l.tree,[]⟩ h fn.results.toList)=some (r,h'):=by
  rw[←z342];show z3a6 h (z119 P l.tree.get h _)=_;rw[yf];exact hr
 obtain⟨v,v',rfl,rfl,hrun,hv⟩:=z308 ha.tmps F hr;have hd:act.defers=[]:=(ha.defers).nil_eq;show Leaves P fn act.tmps (RetOK w0 m0 h' (.ret v)) act.defers .returning w;rw[hd];exact⟨v',hrun,m,he,F,v',rfl,hv⟩
theorem Go.leaveN{fn:Func}(hr:z3a6 h (z119 P l.get h fn.results.toList)=some (r,h')):Go w0 m0 N (Fin P fn w0 m0 r h' .normal) l [] h:=
 fun m act w he ha F=>y47 (m0:=m0) (N:=N) hr m act w he ha F
theorem z3f9{fn:Func}{v:AV}{v':Value}{m:Map}(he:Ext m0 m)(hv:Rel m v v'){act:Act}{w:World}(ha:RelAct m N ⟨l.tree,[]⟩ act)(F:Fits w0 m h' w):Fin P fn w0 m0 (.panic v) h' (.panic [{v:=v',recovered:=false}]) act w:=by
 have hd:act.defers=[]:=(ha.defers).nil_eq;show Leaves P fn act.tmps (RetOK w0 m0 h' (.panic v)) act.defers (.panicking [{v:=v',recovered:=false}]) w;rw[hd];exact⟨m,he,F,v',rfl,hv⟩
def z1e8:Nat→List AV→Fr
 |_,[]=>[]
 |i,v::l=>(i,v)::z1e8 (i+1) l
theorem z262:∀(l:List AV) (i t:Nat) (v:AV),(z1e8 i l).get t=some v→i≤t∧l[t - i]? =some v
 |[],i,t,v,h=>by cases h
 |x::l,i,t,v,h=>by
  unfold z1e8 Fr.get at h
  split at h
  ·rename_i e
   have:=Nat.eq_of_beq_eq_true e;subst this;simp only[Option.some.injEq] at h;subst h
   simp
  ·obtain ⟨h1, h2⟩ := z262 l (i + 1) t v h
   refine⟨by omega,?_⟩;rw[show t - i=(t - (i+1))+1 by omega,List.getElem?_cons_succ];exact h2
theorem says_of{f:FuncId}{fn:Func}{args:List AV}(hf:P.funcs[f]? =some fn){c:Code}(hb:fn.body=some c)(hlen:Nat.ble args.length fn.ntmps=true)(hw:∀w0 m0,W P w0 m0 fn.ntmps c (Fin P fn w0 m0 r h') (z1e8 0 args) [] h):Says P f args h r h':=by
 intro w0 m w args' ha F;have hlen:=Nat.le_of_ble_eq_true hlen;have hl:=ha.length
 have hra : RelAct m fn.ntmps ⟨(z1e8 0 args).tree, []⟩ { tmps := (⟨args'⟩ : Array Value) ++ Array.replicate (fn.ntmps - (⟨args'⟩ : Array Value).size) undef, defers := [] } := {
  size := by simp; omega
  tmps := fun t v hv => by
   have hv : (z1e8 0 args).tree.get t = some v := hv;rw [Fr.get_tree] at hv
   obtain ⟨_, hv⟩ := z262 _ _ _ _ hv
   rw [Nat.sub_zero] at hv
   obtain ⟨y, hy, hr⟩ := ha.get t v hv
   have ht : t < args'.length := (List.getElem?_eq_some_iff.1 hy).1;refine ⟨y, ?_, hr⟩
   simp only
   rw [Array.getElem?_append_left (by simpa using ht)]
   simpa using hy
  defers := .nil }
 exact calls_of_wp_defers hf hb (hw w0 m m _ w (Ext.refl m) hra F)
end
mutual
def AV.scal:AV→Bool
 | .bool _| .int _ _| .str _ _| .nilp| .nsl| .nmp| .nfn| .nifc=>true
 | .fn _ a b=>y2d a&&y2d b
 | .ifc _ v=>AV.scal v
 | .agg l=>y2d l
 | .tup l=>y2d l
 |_=>false
def y2d:List AV→Bool
 |[]=>true
 |x::l=>AV.scal x&&y2d l
end
def ARes.val:ARes→AV
 | .ret v=>v
 | .panic v=>v
theorem Calls.keep{P:Program}{f:FuncId}{args:Array Value}{w:World}{R R':Ending→World→Prop}(h:Calls P f args w R)(hr:∀e w',R e w'→R' e w'):Calls P f args w R':=Calls.mono h hr
end
noncomputable section
open Go.RowKit
def ARes.same:ARes→ARes→Bool
 | .ret v,.ret w=>AV.same v w
 | .panic v,.panic w=>AV.same v w
 |_,_=>false
abbrev Memo:=List (FuncId×List AV×ARes)
def Memo.has:Memo→FuncId→Bool
 |[],_=>false
 |(g,_)::l,f=>match Nat.beq g f with
  |true=>true
  |false=>Memo.has l f
def Memo.find:Memo→FuncId→List AV→Option ARes
 |[],_,_=>none
 |(g,as,r)::l,f,args=>match Nat.beq g f with
  |true=>match y1c as args with
   |true=>some r
   |false=>Memo.find l f args
  |false=>Memo.find l f args
def Memo.run(P:Program)(lf:Nat)(L:Memo)(f:FuncId)(call:z10)(args:List AV)(h:AHeap):Option (ARes×AHeap):=match L.find f args with
 |some r=>some (r,h)
 |none=>bodyA P call lf f args h
def Memo.ok(P:Program)(L:Memo):Prop:=∀f args r,L.find f args=some r→∀h,Says P f args h r h
def came(r:ARes):Option (ARes×AHeap)→Bool
 |some (s,_)=>ARes.same s r
 |none=>false
end
noncomputable section
abbrev z4a:=Bool→Nat→List AV→AHeap→Option (ARes×AHeap)
def z18e(both:z4a)(a:AAct)(d:Option Tmp):z8a→Option AStep
 |some (.val v,h)=>z39 a d v h
 |some (.skip,h)=>z39 a d (.tup []) h
 |some (.call f args,h)=>z155 a d (both false f args h)
 |some (.round b args,h)=>z155 a d (both true b args h)
 |some (.panic v,h)=>some (.panic v h)
 |_=>none
def z393(P:Program)(both:z4a)(ops:Array Oper)(o:Oper)(a:AAct)(h:AHeap):Option AStep:=
 match z41 ops a.tmps.get o.guard with
 |some true=>z18e both a o.dst (opA P a.eval o h)
 |some false=>z39 a o.dst (.tup []) h
 |none=>none
def z358(ops:Array Oper):Bool:=ops.toList.all fun o=>match o.op with
 | .defer _=>false
 |_=>true
def z31f(rb:Option Nat)(N:Nat)(ps:Array Tmp)(x y:Code)(a:AAct)(h:AHeap):Option (Nat×AAct×AHeap):=match rb with
 |none=>some (h.next+1,⟨a.tmps,(0,[],[.mrk h.next])::a.defers⟩,(h.new (.obj .dfr)).new (.obj (.loop ⟨.ready,.none,a.tmps,N,ps,x,y,h.next⟩)))
 |some b=>match h.get b with
  |some (.obj (.loop r))=>some (h.next,a,h.new (.obj (.loop ⟨.ready,.none,a.tmps,N,ps,x,y,r.dfr⟩)))
  |_=>none
def endR(l:Nat)(a:AAct):Option (ARes×AHeap)→z82
 |some (.ret _,h)=>match h.get l with
  |some (.obj (.loop r))=>match r.st with
   | .busy=>none
   |_=>match r.pend with
    | .none=>some (.normal,a,h.put l (.obj (.loop {r with st:=.exhausted})))
    | .ret=>some (.ret,a,h.put l (.obj (.loop {r with st:=.exhausted})))
    | .exit id=>some (.exit id,a,h.put l (.obj (.loop {r with st:=.exhausted})))
  |_=>none
 |_=>none
def z1a4(P:Program)(both:z4a)(rb:Option Nat)(N:Nat)(f:Option AV)(ps:Array Tmp)(x y:Code)(a:AAct)(h:AHeap):z82:=match f with
 |some (.fn g first cap)=>match z164 P g with
  |true=>match z31f rb N ps x y a h with
   |some (l,a1,h1)=>endR l a1 (both false g (first++[.yld l]++cap) h1)
   |none=>none
  |false=>none
 |_=>none
def z222(P:Program)(fn:Func)(a:AAct):List (FuncId×List AV×List AV)→AHeap→Option (ARes×AHeap)
 |[],h=>z3a6 h (z159 P a h fn.results.toList)
 |(0,[],[.mrk D])::ds,h=>match h.get D with
  |some (.obj .dfr)=>z222 P fn a ds (h.put D (.obj .shut))
  |_=>none
 |_,_=>none
def z351(N:Nat):List Tmp→List AV→T AV→Option (T AV)
 |[],[],t=>some t
 |p::ps,v::vs,t=>if Nat.blt p N=true then z351 N ps vs (t.set p v) else none
 |_,_,_=>none
def z315:AExit→Option AJump
 | .normal=>some .none
 | .ret=>some .ret
 | .exit id=>some (.exit id)
 |_=>none
def z368(b:Nat):z82→Option (ARes×AHeap)
 |some (e,_,h)=>match z315 e with
  |some j=>match h.get b with
   |some (.obj (.loop r))=>some (.ret (.bool j.isNone),h.put b (.obj (.loop {r with st:=if j.isNone then .ready else .done,pend:=j})))
   |_=>none
  |none=>none
 |none=>none
def z35a(body:AAct→AHeap→z82)(b:Nat):z82→Option (ARes×AHeap)
 |some (.normal,a,h)=>match h.get b with
  |some (.obj (.loop r))=>match r.st with
   | .ready=>z368 b (body a (h.put b (.obj (.loop {r with st:=.busy}))))
   |_=>none
  |_=>none
 |_=>none
end
noncomputable section
open Go.RowKit
abbrev FW(rd:Option Nat):Fence:={Fence.wide with round:=rd}
def z2de(P:Program)(w0:Base)(rnd:Nat→List AV→AHeap→Option (ARes×AHeap)):Prop:=∀(b:Nat) (args:List AV) (h:AHeap) (r:ARes) (h':AHeap),rnd b args h=some (r,h')→
 ∀(m:Map) (w:World) (args':List Value) (g:Nat) (r':Loop),RelL m args args'→Fits w0 m h w→m[b]? =some (some (g,0,0))→w.heap[g]? =some (.loop r')→args.length=r'.params.size→
  ∀(rd:Option Nat) (n:Nat),RoundIn (FW rd) n P g r'.fn ((r'.params.zip ⟨args'⟩).foldl (fun tmps (t,a)=>tmps.setIfInBounds t a) r'.tmps) r'.assign r'.body w (RetOK w0 m h' r)
structure BothOK (P:Program) (w0:Base) (both:z4a):Prop where
 call:ze2 P w0 (both false)
 round:z2de P w0 (both true)
section
variable {P:Program}{m:Map}{w0:Base}{w:World}{H H':AHeap}{nx:ANext}{both:z4a}{rd:Option Nat}{n:Nat}
theorem z1d2{f:FuncId}{args:Array Value}{R:Ending→World→Prop}(h:Calls P f args w R):CallsIn (FW rd) n P f args w R:=by
 cases rd with
 |none=>exact callsIn_wide.2 h
 |some l=>exact CallsIn.inRound l (callsIn_wide.2 h)
theorem uponR_ok(hc:BothOK P w0 both){a:AAct}{act:Act}{o:Oper}{st:AStep}{r:Result Next}{K:Act→World→Prop}{Q:Exit→Act→World→Prop}(hp:z237 w0 m H' nx r)(h:z18e both a o.dst (some (nx,H'))=some st)(hgo:∀(a':AAct) (h':AHeap),st=.go a' h'→∀(m':Map) (w':World) (v:AV) (v':Value),Ext m m'→Fits w0 m' h' w'→Rel m' v v'→a'=a.put o.dst v→K (act.put o.dst v') w')(hpn:∀(v:AV) (h':AHeap),st=.panic v h'→∀(m':Map) (w':World) (v':Value),Ext m m'→Fits w0 m' h' w'→Rel m' v v'→Q (.panic [{v:=v',recovered:=false}]) act w'):
  o.uponIn (FW rd) n P act K Q r:=by
 obtain⟨m',w',he,F,ho⟩:=hp;unfold z18e at h
 split at h
 ·rename_i e
  cases e
  obtain⟨v',rfl,hv⟩:=ho;simp only[z39,Option.some.injEq] at h;exact hgo _ _ h.symm m' w' _ v' he F hv rfl
 ·rename_i e
  cases e
  simp only[z462] at ho;subst ho;simp only[z39,Option.some.injEq] at h;exact hgo _ _ h.symm m' w' _ _ he F (.tup .nil) rfl
 ·rename_i f args h1 e
  cases e
  obtain⟨args',rfl,hr⟩:=ho;unfold z155 at h
  split at h
  ·rename_i v h2 hcall
   refine⟨fun hh=>(by cases hh),z1d2 (Calls.mono (hc.call _ _ _ _ _ hcall m' w' args' hr F) ?_)⟩
   rintro e w'' ⟨m'',he2,F2,v',rfl,hv⟩
   simp only[z39,Option.some.injEq] at h;exact hgo _ _ h.symm m'' w'' _ v' (he.trans he2) F2 hv rfl
  ·rename_i v h2 hcall
   refine⟨fun hh=>(by cases hh),z1d2 (Calls.mono (hc.call _ _ _ _ _ hcall m' w' args' hr F) ?_)⟩
   rintro e w'' ⟨m'',he2,F2,v',rfl,hv⟩
   simp only[Option.some.injEq] at h;exact hpn _ _ h.symm m'' w'' v' (he.trans he2) F2 hv
  ·cases h
 ·rename_i b args h1 e
  cases e
  obtain⟨g,r',args',hm,hl,hlen,hr,rfl⟩:=ho;unfold z155 at h
  split at h
  ·rename_i v h2 hcall
   refine⟨fun hh=>(by cases hh),RoundIn.mono (hc.round _ _ _ _ _ hcall m' w' args' g r' hr F hm hl hlen rd (n - 1)) ?_⟩
   rintro e w'' ⟨m'',he2,F2,v',rfl,hv⟩
   simp only[z39,Option.some.injEq] at h;exact hgo _ _ h.symm m'' w'' _ v' (he.trans he2) F2 hv rfl
  ·rename_i v h2 hcall
   refine⟨fun hh=>(by cases hh),RoundIn.mono (hc.round _ _ _ _ _ hcall m' w' args' g r' hr F hm hl hlen rd (n - 1)) ?_⟩
   rintro e w'' ⟨m'',he2,F2,v',rfl,hv⟩
   simp only[Option.some.injEq] at h;exact hpn _ _ h.symm m'' w'' v' (he.trans he2) F2 hv
  ·cases h
 ·rename_i v h1 e
  cases e
  obtain⟨v',rfl,hv⟩:=ho;simp only[Option.some.injEq] at h;exact hpn _ _ h.symm m' w' v' he F hv
 ·cases h
theorem RelAct.put1{N:Nat}{a:AAct}{act:Act}(h:RelAct m N a act){d:Option Tmp}(hd:∀t,d=some t→t<N){v:AV}{v':Value}(hv:Rel m v v'):RelAct m N (a.put d v) (act.put d v'):=
 h.put hd hv (ds:=[]) (ds':=[]) .nil
theorem z3ff{ops:Array Oper}(h:z358 ops=true){o:Oper}(ho:o∈ops.toList):∀c,o.op≠ .defer c:=by
 intro c e;have:=List.all_eq_true.1 h o ho;rw[e] at this
 cases this
variable {Q:Exit→Act→World→Prop}
theorem z49e{o:Oper}{a:Act}{next next':Act→World→Prop}{r:Result Next}(hn:∀a w,next a w→next' a w)(h:o.upon P a next Q r):o.uponIn (FW rd) n P a next' Q r:=by
 cases r with
 |ok x w'=>cases x with
  |value v=>exact hn _ _ h
  |skip=>exact hn _ _ h
  |defer d=>exact hn _ _ h
  |enter f args=>
   refine⟨fun hh=>(by cases hh),z1d2 (Calls.mono h ?_)⟩;intro e w2 he
   cases e with
   |returned v=>exact hn _ _ he
   |panicked c=>exact he
   |outgrown=>exact he
  |row row args=>
   refine⟨fun hh=>(by cases hh),fun c cs _=>?_⟩;obtain⟨v,w2,r2,s⟩:=h c cs;exact⟨v,w2,hn _ _ r2,stepsIn_wide.2 s⟩
  |_=>exact h.elim
 |halt e w'=>cases e with
  |panic v=>exact h
  |_=>exact h.elim
theorem operIn_of{o:Oper}{a:Act}{w:World}{next next':Act→World→Prop}(hd:∀c,o.op≠ .defer c)(hn:∀a w,next a w→next' a w)(h:o.wp P a w next Q):o.wpIn (FW rd) n P a w next' Q:=
 ⟨fun _ _=>trivial,by rw[Oper.semAt_eq _ _ _ hd];exact z49e hn h⟩
theorem opIn_of{ops:Array Oper}(hd:z358 ops=true)(hQ:¬LetsOut Q){i:Nat}{a:Act}{w:World}{K K':Act→World→Prop}(hn:∀a w,K a w→K' a w)(h:wpOp P ops Q i K a w):wpOpIn (FW rd) n P ops Q i K' a w:=by
 unfold wpOp at h;unfold wpOpIn
 split at h
 ·rename_i ho
  rw[ho];exact hn _ _ h
 ·rename_i o ho
  rw[ho];dsimp only
  have hm:o∈ops.toList:=by
   obtain⟨h1,h2⟩:=Array.getElem?_eq_some_iff.1 ho;rw[←h2]
   simp
  by_cases hw:Region.wanted o (yielded ops a.tmps)=true
  ·rw [if_pos hw] at h ⊢
   rcases h with h|⟨_,h⟩
   ·exact operIn_of (z3ff hd hm) hn h
   ·exact(hQ h).elim
  ·rw [if_neg hw] at h ⊢
   exact⟨fun _ _=>trivial,hn _ _ h⟩
theorem z45f{ops:Array Oper}{md:Region.Mode}(hd:z358 ops=true)(hQ:¬LetsOut Q):∀(fuel:Nat) (listed:Array Bool) (a:Act) (w:World),wpAny P md ops Q fuel listed a w→wpAnyIn (FW rd) n P md ops Q fuel listed a w
 |0,_,_,_,h=>h
 |fuel+1,_,_,_,h=>⟨h.1,fun i hi=>opIn_of hd hQ (fun a w hk=>z45f hd hQ fuel _ a w hk) (h.2 i hi)⟩
theorem draw_any{call:z10}{ops:Array Oper}{a:AAct}{act:Act}(hc:ze2 P w0 call){N:Nat}(hN:∀o∈ops.toList,z139 N o=true){e1:AExit}{a1:AAct}{h1:AHeap}(ha:RelAct m N a act)(F:Fits w0 m H w)(h:z374 P call ops a H=some (e1,a1,h1)):
  wpAny P .any ops (z494 w0 m N e1 a1 h1) ops.size (Array.replicate ops.size false) act {w with drawn:=w.drawn+1}:=by
 unfold z374 at h
 split at h
 ·rename_i p hp
  unfold z2ab at hp
  split at hp
  ·rename_i hc'
   simp only[Bool.and_eq_true] at hc';simp only[Option.some.injEq] at hp;subst hp;refine any_ok hc hc'.1 hN ops.size _ [] _ a H [] (fun _=>none) m act _ ?_ hc'.2 h (by simp[Array.countP_replicate])
   have no:∀i:Nat,(Array.replicate ops.size false)[i]? ≠some true:=by
    intro i hi;rw[Array.getElem?_replicate] at hi
    split at hi<;>cases hi
   exact {
    size := by simp
    sub := fun i h => (no i h).elim
    lt := fun i h => by simp at h
    closedS := fun i h => (no i h).elim
    ord := .nil
    kind := fun i h => by simp at h
    fits := F.drew
    ext := Ext.refl m
    asize := ha.size
    slots := fun t => .inr (ha.tmps t)
    defers := ha.defers
    pend := fun i h => by simp at h
    inj := fun _ _ _ h => by cases h
    idlt := fun _ _ h => by cases h }
  ·cases hp
 ·cases h
theorem z475{N:Nat}{e:AExit}{a:AAct}{h:AHeap}:¬LetsOut (z494 w0 m N e a h):=by
 rintro ⟨a2,w2,m2,hx,ha2,F2,hex⟩
 cases hex
end
end
noncomputable section
open Go.RowKit
section
variable {P:Program}{m:Map}{w0:Base}{w:World}{H H':AHeap}{both:z4a}{rd rb:Option Nat}{N lf:Nat}
def RB(m:Map):Option Nat→Option Nat→Prop
 |none,none=>True
 |some b,some l=>m[b]? =some (some (l,0,0))
 |_,_=>False
def z204(P:Program)(w0:Base)(N:Nat)(rb:Option Nat)(f:AAct→AHeap→z82)(c:Code):Prop:=∀(a:AAct) (h:AHeap) (e:AExit) (a':AAct) (h':AHeap),f a h=some (e,a',h')→
 ∀(rd:Option Nat) (n:Nat) (m:Map) (act:Act) (w:World),RB m rb rd→RelAct m N a act→Fits w0 m h w→c.wpIn (FW rd) n P (z494 w0 m N e a' h') act w
theorem z490{B g:Nat}{a w:World}(h:Below B a w)(hB:B≤w.heap.size)(hg:B≤g)(o:Obj):Below B a (w.putObj g o):=
 h.grown (grownBy_putObj' w g o) hB (fun k e=>by cases e;exact hg)
theorem Fits.newObj(F:Fits w0 m H w){q:AKeep}{o:Obj}(hk:KeepAt (m++[some (w.heap.size,0,0)]) w.heap.size q (w.alloc o)):Fits w0 (m++[some (w.heap.size,0,0)]) (H.new (.obj q)) (w.alloc o):=by
 refine Fits.new (F.alloc o) (.obj q) (fun b o' s' z' hb ho hm=>?_) (fun _ _ _ h=>by cases h) (fun _ h=>by cases h) (fun _ _ _ h=>by cases h) (hpin:=fun k o' hk _ e=>?_) (hobj:=fun q' h=>?_)
 ·have := F.mapped_lt hb ho hm
  omega
 ·have := zc1 (F.pin k o' hk).1
  omega
 ·cases h
  exact⟨rfl,rfl,F.size,hk⟩
theorem Fits.putObj(F:Fits w0 m H w){b g:Nat}{q q':AKeep}{o:Obj}(hb:H.get b=some (.obj q))(hm:m[b]? =some (some (g,0,0)))(hk:KeepAt m g q' (w.putObj g o)):Fits w0 m (H.put b (.obj q')) (w.putObj g o):=by
 have hg:=(F.obj b q g 0 0 hb hm).2.2.1;refine Fits.put F hb rfl rfl hm (z490 F.below F.size hg o) (fun k hk _=>World.putObj_heap_other hk) (fun _ _ _ h=>by cases h) (fun _ h=>by cases h) (fun _ _ _ h=>by cases h) (hobj:=fun q2 h=>?_);cases h;exact⟨rfl,rfl,hg,hk⟩
theorem enterR_ok{ps:Array Tmp}{x y:Code}{a a1:AAct}{l:Nat}{h h1:AHeap}{act:Act}(he:z31f rb N ps x y a h=some (l,a1,h1))(hrb:RB m rb rd)(ha:RelAct m N a act)(F:Fits w0 m h w)(fn:FuncId):
  ∃(g:Nat) (mark:List Deferred) (w1:World) (m1:Map),(Instr.enterLoop fn act.tmps ps x y (FW rd).round).run P w=.ok (g,mark) w1∧Ext m m1∧m1[l]? =some (some (g,0,0))∧RelAct m1 N a1 {act with defers:=mark++act.defers}∧Fits w0 m1 h1 w1:=by
 cases rb with
 |none=>
  cases rd with
  |some _=>exact hrb.elim
  |none=>
   simp only[z31f,Option.some.injEq,Prod.mk.injEq] at he;obtain⟨rfl,rfl,rfl⟩:=he;have hn1:(m++[some (w.heap.size,0,0)])[h.next]? =some (some (w.heap.size,0,0)):=z162 F _;have F1:Fits w0 (m++[some (w.heap.size,0,0)]) (h.new (.obj .dfr)) (w.alloc (.deferred (some []))):=F.newObj (World.alloc_heap_new _ _);have hsz:(w.alloc (.deferred (some []))).heap.size=w.heap.size+1:=World.size_alloc _ _
   have F2:=F1.newObj (q:=.loop ⟨.ready,.none,a.tmps,N,ps,x,y,h.next⟩) (o:=.loop {state:=.ready,pending:=none,fn:=fn,tmps:=act.tmps,params:=ps,assign:=x,body:=y,defers:=w.heap.size})
    ⟨_, World.alloc_heap_new _ _, rfl, rfl, ha.size, fun t v hv => by
     obtain⟨v',h1,h2⟩:=ha.tmps t v hv;exact⟨v',h1,(h2.mono (ye _ _)).mono (ye _ _)⟩,rfl,rfl,rfl,ye _ _ _ _ hn1⟩
   have hn2:=z162 F1 ((w.alloc (.deferred (some []))).heap.size,0,0);have hx:Ext m ((m++[some (w.heap.size,0,0)])++[some ((w.alloc (.deferred (some []))).heap.size,0,0)]):=(Ext.append _ _).trans (Ext.append _ _);refine⟨w.heap.size+1,[{target:=.collected w.heap.size,args:= #[]}],_,_,run_enterLoop_outer _ _ _ _ _,hx,?_,?_,F2⟩
   ·rw[←hsz];exact hn2
   ·exact⟨ha.size,fun t=>(ha.tmps t).mono hx.le,.mark (ye _ _ _ _ hn1) (ha.defers.mono hx.le)⟩
 |some b=>
  cases rd with
  |none=>exact hrb.elim
  |some lp=>
   simp only[z31f] at he
   split at he
   ·rename_i r hb
    simp only[Option.some.injEq,Prod.mk.injEq] at he;obtain⟨rfl,rfl,rfl⟩:=he;obtain⟨_,_,_,r0,k1,_,_,_,_,_,_,_,k9⟩:=F.obj _ _ _ _ _ hb hrb
    have F2:=F.newObj (q:=.loop ⟨.ready,.none,a.tmps,N,ps,x,y,r.dfr⟩) (o:=.loop {state:=.ready,pending:=none,fn:=fn,tmps:=act.tmps,params:=ps,assign:=x,body:=y,defers:=r0.defers})
     ⟨_, World.alloc_heap_new _ _, rfl, rfl, ha.size, fun t v hv => by
      obtain⟨v',h1,h2⟩:=ha.tmps t v hv;exact⟨v',h1,h2.mono (ye _ _)⟩,rfl,rfl,rfl,ye _ _ _ _ k9⟩
    exact⟨w.heap.size,[],_,_,run_enterLoop_inner k1 _ _ _ _ _,Ext.append _ _,z162 F _,ha.mono (ye _ _),F2⟩
   ·cases he
theorem Fits.reLoop(F:Fits w0 m H w){b g:Nat}{r:ALoop}(hb:H.get b=some (.obj (.loop r)))(hm:m[b]? =some (some (g,0,0)))(st:LoopState)(pe:AJump):
  ∃r':Loop,w.heap[g]? =some (.loop r')∧r'.state=r.st∧r'.pending=r.pend.code∧r'.body=r.body∧Fits w0 m (H.put b (.obj (.loop {r with st:=st,pend:=pe}))) (w.putObj g (.loop {r' with state:=st,pending:=pe.code})):=by
 obtain⟨_,_,hg,r',k1,k2,k3,k4,k5,k6,k7,k8,k9⟩:=F.obj _ _ _ _ _ hb hm;exact⟨r',k1,k2,k3,k8,F.putObj hb hm ⟨_,World.putObj_heap_same (zc1 k1),rfl,rfl,k4,k5,k6,k7,k8,k9⟩⟩
theorem rangeR_ok(hc:BothOK P w0 both){f:Operand}{ps:Array Tmp}{x y:Code}:z204 P w0 N rb (fun a h=>z1a4 P both rb N (a.eval f) ps x y a h) (.rangeFunc f ps x y):=by
 intro a h e a' h' hr rd n m act w hrb ha F;have hr:z1a4 P both rb N (a.eval f) ps x y a h=some (e,a',h'):=hr;unfold z1a4 at hr
 split at hr
 ·rename_i g first cap hf
  split at hr
  ·rename_i hbody
   split at hr
   ·rename_i l a1 h1 hent
    have hev:=z19d (m:=m) (act:=act) (fun t _=>ha.tmps t) _ hf
    generalize hvf:act.eval f=vf at hev
    cases hev with| @fn _ _ _ first' cap' k1 k2=>
    refine wpIn_rangeFunc ?_;intro fn hfn;obtain⟨lc,mark,w1,m1,hrun,hx1,hml,ha1,F1⟩:=enterR_ok (P:=P) hent hrb ha F fn;refine⟨lc,mark,w1,{target:=.fn (.func g) ⟨cap'⟩,args:=⟨first'++[.func (.yield lc) #[] #[]]⟩},w1,g,⟨first'++[.func (.yield lc) #[] #[]]++cap'⟩,w1,hrun,?_,fun _ _=>trivial,?_,fun hh=>(by cases hh),?_⟩
    ·simp only [resolve, hvf, Deferred.ofValue, Sem.run_pure]
     simp[Act.eval]
    ·simp only [invoke]
     have:(⟨first'++[.func (.yield lc) #[] #[]]⟩++⟨cap'⟩:Array Value)=⟨first'++[.func (.yield lc) #[] #[]]++cap'⟩:=by simp
     rw[this];exact z319 hbody _ w1
    ·unfold endR at hr
     split at hr
     ·rename_i v h2 hcall
      have hcall:=hc.call _ _ _ _ _ hcall m1 w1 (first'++[.func (.yield lc) #[] #[]]++cap') (((k1.mono hx1.le).append (.cons (.yld hml) .nil)).append (k2.mono hx1.le)) F1;refine z1d2 (Calls.mono hcall ?_)
      rintro e2 w2 ⟨m2,hx2,F2,v',rfl,hv⟩
      split at hr
      ·rename_i r hb
       have hml2:=hx2.le _ _ hml;obtain⟨r',q1,q2,q3,q4,F3⟩:=F2.reLoop hb hml2 .exhausted r.pend;have hx:=hx1.trans hx2;have ha3:=ha1.mono hx2.le
       have hnb:r'.state≠ .busy→(Instr.endLoop lc).run P w2=.ok r.pend.code (w2.putObj lc (.loop {r' with state:=.exhausted})):=fun hne=>by
        rw[run_endLoop q1 hne,q3]
       have hF3:w2.putObj lc (.loop {r' with state:=.exhausted,pending:=r.pend.code})=w2.putObj lc (.loop {r' with state:=.exhausted}):=by rw[←q3]
       rw[hF3] at F3
       have fin:r.st≠ .busy→(match r.pend with
         | .none=>some (AExit.normal,a1,h2.put l (.obj (.loop {r with st:=.exhausted})))
         | .ret=>some (AExit.ret,a1,h2.put l (.obj (.loop {r with st:=.exhausted})))
         | .exit id=>some (AExit.exit id,a1,h2.put l (.obj (.loop {r with st:=.exhausted}))))=some (e,a',h')→
         rangePost (FW rd) n P lc (z494 w0 m N e a' h') {act with defers:=mark++act.defers} (.returned v') w2:=by
        intro hst hm;refine⟨_,_,hnb (by rw[q2];exact hst),?_⟩;cases hp:r.pend with
        |none=>
         rw[hp] at hm F3;simp only[Option.some.injEq,Prod.mk.injEq] at hm;obtain⟨rfl,rfl,rfl⟩:=hm;exact⟨m2,hx,ha3,F3,.normal⟩
        |ret=>
         rw[hp] at hm F3;simp only[Option.some.injEq,Prod.mk.injEq] at hm;obtain⟨rfl,rfl,rfl⟩:=hm;exact wpIn_ret ⟨m2,hx,ha3,F3,.ret⟩
        |exit id=>
         rw[hp] at hm F3;simp only[Option.some.injEq,Prod.mk.injEq] at hm;obtain⟨rfl,rfl,rfl⟩:=hm;exact wpIn_exit ⟨m2,hx,ha3,F3,.exit id⟩
       cases hst:r.st with
       |busy=>rw[hst] at hr;cases hr
       |ready=>exact fin (by rw[hst];simp) (by rw[hst] at hr;exact hr)
       |done=>exact fin (by rw[hst];simp) (by rw[hst] at hr;exact hr)
       |exhausted=>exact fin (by rw[hst];simp) (by rw[hst] at hr;exact hr)
      ·cases hr
     ·cases hr
   ·cases hr
  ·cases hr
 ·cases hr
theorem putPs_ok{m:Map}{N:Nat}:∀(ps:List Tmp) (vs:List AV) (vs':List Value) (t t':T AV) (tm:Array Value),z351 N ps vs t=some t'→RelL m vs vs'→tm.size=N→(∀i v,t.get i=some v→∃v',tm[i]? =some v'∧Rel m v v')→
  ((ps.zip vs').foldl (fun tmps (p:Tmp×Value)=>tmps.setIfInBounds p.1 p.2) tm).size=N∧∀i v,t'.get i=some v→∃v',((ps.zip vs').foldl (fun tmps (p:Tmp×Value)=>tmps.setIfInBounds p.1 p.2) tm)[i]? =some v'∧Rel m v v':=by
 intro ps
 induction ps with
 |nil=>
  intro vs vs' t t' tm h hr hT ht
  cases vs with
  |nil=>
   simp only[z351,Option.some.injEq] at h;subst h;exact⟨hT,ht⟩
  |cons v vs=>cases h
 |cons p ps ih=>
  intro vs vs' t t' tm h hr hT ht
  cases vs with
  |nil=>cases h
  |cons v vs=>
   cases hr with| @cons _ v' _ vs'' h1 h2=>
   simp only[z351] at h
   split at h
   ·rename_i hp
    have hp:p<N:=Nat.le_of_ble_eq_true hp;refine ih vs vs'' _ t' (tm.setIfInBounds p v') h h2 (by simpa using hT) (fun i x hx=>?_)
    by_cases e:p=i
    ·subst e
     rw[y15] at hx;simp only[Option.some.injEq] at hx;subst hx;exact⟨v',by simp[hT,hp],h1⟩
    ·rw [y17 _ _ e] at hx
     obtain⟨y,k1,k2⟩:=ht i x hx;exact⟨y,by rw[Array.getElem?_setIfInBounds_ne e];exact k1,k2⟩
   ·cases h
theorem takeMark{D g:Nat}(F:Fits w0 m H w)(hb:H.get D=some (.obj .dfr))(hm:m[D]? =some (some (g,0,0))):(Instr.takeDeferred g).run P w=.ok [] (w.putObj g (.deferred none))∧Fits w0 m (H.put D (.obj .shut)) (w.putObj g (.deferred none)):=by
 obtain⟨_,_,_,hk⟩:=F.obj _ _ _ _ _ hb hm;have hk:w.heap[g]? =some (.deferred (some [])):=hk;exact⟨run_takeDeferred hk,F.putObj hb hm (World.putObj_heap_same (zc1 hk))⟩
theorem marksR_ok{fn:Func}{a:AAct}{act:Act}{r:ARes}{h':AHeap}{n:Nat}:∀(ds:List (FuncId×List AV×List AV)) (h:AHeap),z222 P fn a ds h=some (r,h')→
  ∀(m:Map) (ds':List Deferred) (w:World),(∀t,Slot m a act t)→RelD m ds ds'→Fits w0 m h w→LeavesInM Fence.wide n P fn act.tmps (RetOK w0 m h' r) ds' .returning w:=by
 intro ds
 induction ds with
 |nil=>
  intro h hr m ds' w hs hds F;have:=hds.nil_eq;subst this;simp only[z222] at hr;obtain⟨v,v',rfl,rfl,hrun,hv⟩:=z308 hs F hr;exact⟨v',hrun,m,Ext.refl m,F,v',rfl,hv⟩
 |cons d ds ih=>
  intro h hr m ds' w hs hds F;unfold z222 at hr
  split at hr
  ·rename_i e
   cases e
  ·rename_i D ds2 e
   simp only[List.cons.injEq] at e;obtain⟨rfl,rfl⟩:=e
   split at hr
   ·rename_i hb
    cases hds with
    |mark hmD hrest=>
     obtain⟨ht,F2⟩:=takeMark (P:=P) F hb hmD;exact⟨by simp,.inl ⟨_,_,rfl,ht,ih _ hr m _ _ hs hrest F2⟩⟩
    |cons k1 k2 k3=>
     cases k2 with|cons k _=>cases k
   ·cases hr
  ·cases hr
theorem LeavesInM.mono{fn:Func}{tmps:Array Value}{n:Nat}{R R':Ending→World→Prop}(hr:∀e w,R e w→R' e w):∀(ds:List Deferred) (u:FrameMode) (w:World),(∀d∈ds,∃g,d.target=.collected g)→LeavesInM Fence.wide n P fn tmps R ds u w→LeavesInM Fence.wide n P fn tmps R' ds u w:=by
 intro ds
 induction ds with
 |nil=>
  intro u w _ h
  cases u with
  |run=>exact h
  |returning=>obtain⟨v,h1,h2⟩:=h;exact⟨v,h1,hr _ _ h2⟩
  |panicking chain=>exact hr _ _ h
 |cons d ds ih=>
  intro u w hd h;obtain⟨h1,h2⟩:=h;refine⟨h1,?_⟩
  rcases h2 with⟨g,w',k1,k2,k3⟩|⟨_,fv,cap,f,args,k1,_⟩
  ·exact .inl ⟨g,w',k1,k2,ih _ _ (fun d hd'=>hd d (List.mem_cons_of_mem _ hd')) k3⟩
  ·obtain ⟨g, hg⟩ := hd d (List.mem_cons_self ..)
   rw[hg] at k1
   cases k1
theorem z478{fn:Func}{a:AAct}{r:ARes}{h':AHeap}:∀(ds:List (FuncId×List AV×List AV)) (h:AHeap),z222 P fn a ds h=some (r,h')→∀(m:Map) (ds':List Deferred),RelD m ds ds'→∀d∈ds',∃g,d.target=.collected g:=by
 intro ds
 induction ds with
 |nil=>intro h hr m ds' hds d hd;rw[hds.nil_eq] at hd;cases hd
 |cons d ds ih=>
  intro h hr m ds' hds d2 hd2;unfold z222 at hr
  split at hr
  ·rename_i e;cases e
  ·rename_i D ds2 e
   simp only[List.cons.injEq] at e;obtain⟨rfl,rfl⟩:=e
   split at hr
   ·cases hds with
    |mark hmD hrest=>
     rcases List.mem_cons.1 hd2 with rfl|hd2
     ·exact⟨_,rfl⟩
     ·exact ih _ hr m _ hrest d2 hd2
    |cons k1 k2 k3=>cases k2 with|cons k _=>cases k
   ·cases hr
  ·cases hr
end
end
noncomputable section
open Go.RowKit
end
end Go.Proofs.Ytpnccmlajhhpdaa.Abs
