/- What matchEarlyUpto_proved stands on, part 3 of 11. -/
import Derived.Test.YtcahhjjnihipdaaDoorCe2
import Derived.RangeFuncCalls
import Derived.RangeFuncLeaves
import Derived.RangeFuncNested
import Derived.TacticsIn
import Derived.OrdersIn
namespace Go.Proofs.YtcahhjjnihipdaaDoor.Abs
noncomputable section
open Go.RowKit
end
noncomputable section
open Go.RowKit
section
variable {P:Program}{m:Map}{w0:Base}{w:World}{lf:Nat}{call:zc}{H:AHeap}
theorem resA_ok{a:AAct}{act:Act}{h:AHeap}(hs:∀t,Slot m a act t)(F:Fits w0 m h w){r:ResultVar}{v:AV}(hr:resA P a h r=some v):
  ∃v',((match r with
   | .tmp t=>pure (act.tmps.getD t undef)
   | .cell a t=>do loadVar t (←asAddr (act.tmps.getD a undef)):Sem Value)).run P w=.ok v' w∧Rel m v v':=by
 cases r with
 |tmp t=>
  obtain⟨v',h1,h2⟩:=hs t v hr;exact⟨v',by simp[Array.getD_eq_getD_getElem?,h1],h2⟩
 |cell t ty=>
  simp only[resA] at hr
  split at hr
  ·rename_i u H1 hl
   simp only[Option.some.injEq] at hr;subst hr;obtain⟨_,b,o,_,_,hx,_,_⟩:=z420 hl
   rcases hx with hx|hx
   ·obtain ⟨p, h1, h2⟩ := hs t _ hx
    have:=z3e1 (P:=P) F (x':=p) (fun v hv=>by rw[hx] at hv;cases hv;exact h2) hl;obtain⟨v,v',e1,_,hrun,hv⟩:=this
    cases e1
    cases h2 with|ptr hm=>
    refine⟨v',?_,hv⟩;rw[←hrun]
    simp[Array.getD_eq_getD_getElem?,h1,asAddr,Instr.loadAt,Instr.sureAddr]
   ·obtain ⟨p, h1, h2⟩ := hs t _ hx
    have:=z3e1 (P:=P) F (x':=p) (fun v hv=>by rw[hx] at hv;cases hv;exact h2) hl;obtain⟨v,v',e1,_,hrun,hv⟩:=this
    cases e1
    cases h2;refine⟨v',?_,hv⟩;rw[←hrun]
    simp[Array.getD_eq_getD_getElem?,h1,asAddr,Instr.loadAt,Instr.sureAddr]
  ·cases hr
theorem z48b{a:AAct}{act:Act}{h:AHeap}(hs:∀t,Slot m a act t)(F:Fits w0 m h w):∀(l:List ResultVar) (vs:List AV),z14a P a h l=some vs→
  ∃vs',(l.mapM (fun r=>(match r with
   | .tmp t=>pure (act.tmps.getD t undef)
   | .cell a t=>do loadVar t (←asAddr (act.tmps.getD a undef)):Sem Value))).run P w=.ok vs' w∧RelL m vs vs':=by
 intro l
 induction l with
 |nil=>
  intro vs h;simp only[z14a,Option.some.injEq] at h;subst h;exact⟨[],by simp,.nil⟩
 |cons r l ih=>
  intro vs h;simp only[z14a] at h
  split at h
  ·rename_i v vs1 h1 h2
   simp only[Option.some.injEq] at h;subst h;obtain⟨v',hv1,hv2⟩:=resA_ok hs F h1;obtain⟨vs',hs1,hs2⟩:=ih _ h2;refine⟨v'::vs',?_,.cons hv2 hs2⟩;rw[List.mapM_cons,Sem.run_bind,hv1,Result.andThen_ok,Sem.run_bind,hs1,Result.andThen_ok,Sem.run_pure]
  ·cases h
theorem z300{a:AAct}{act:Act}{h h':AHeap}{fn:Func}{r:ARes}(hs:∀t,Slot m a act t)(F:Fits w0 m h w)(hr:z365 h (z14a P a h fn.results.toList)=some (r,h')):
  ∃v v',r=.ret v∧h'=h∧(results fn act.tmps).run P w=.ok v' w∧Rel m v v':=by
 cases hall:z14a P a h fn.results.toList with
 |none=>rw[hall] at hr;cases hr
 |some vs=>
  rw[hall] at hr;obtain⟨vs',h1,h2⟩:=z48b hs F _ _ hall
  have hrun:(results fn act.tmps).run P w=.ok (if h:vs'.toArray.size=1 then vs'.toArray[0] else .tuple vs'.toArray) w:=by
   unfold results;rw[Sem.run_bind,Array.mapM_eq_mapM_toList]
   have fin:∀X:Sem (List Value),X.run P w=.ok vs' w→((List.toArray<$>X).run P w).andThen (fun (vs:Array Value) w'=>Sem.run P (pure (if h:vs.size=1 then vs[0] else Value.tuple vs)) w')=.ok (if h:vs'.toArray.size=1 then vs'.toArray[0] else .tuple vs'.toArray) w:=by
    intro X hX;simp only[Sem.run_map,hX];rfl
   exact fin _ h1
  have hl:=h2.length;unfold z365 at hr
  split at hr
  ·rename_i v e
   simp only[Option.some.injEq] at e;subst e;simp only[Option.some.injEq,Prod.mk.injEq] at hr;obtain⟨rfl,rfl⟩:=hr;cases h2 with|cons hv hn=>
   cases hn;exact⟨v,_,rfl,rfl,by rw[hrun];rfl,hv⟩
  ·rename_i l hno e
   simp only[Option.some.injEq] at e;subst e;simp only[Option.some.injEq,Prod.mk.injEq] at hr;obtain⟨rfl,rfl⟩:=hr;refine⟨_,.tuple vs'.toArray,rfl,rfl,?_,.tup h2⟩;rw[hrun]
   have:vs'.toArray.size≠1:=by
    intro h1;simp only[List.size_toArray] at h1;rw[h1] at hl
    match vs,hl with
    |[v],_=>exact hno v rfl
   rw[dif_neg this]
  ·cases hr
inductive RelU (m:Map):Option AV→FrameMode→Prop
 |ret:RelU m none .returning
 |panic {v:AV} {v':Value} (h:Rel m v v'):RelU m (some v) (.panicking [{v:=v',recovered:=false}])
inductive RelR (m:Map):Option AV→FrameMode→Prop
 |of {u:Option AV} {f:FrameMode} (h:RelU m u f):RelR m u f
 |done (v':Value):RelR m none (.panicking [{v:=v',recovered:=true}])
theorem RelU.mono{m m':Map}(hm:Map.le m m'){u:Option AV}{f:FrameMode}(h:RelU m u f):RelU m' u f:=by
 cases h with
 |ret=>exact .ret
 |panic h=>exact .panic (h.mono hm)
theorem RelR.mono{m m':Map}(hm:Map.le m m'){u:Option AV}{f:FrameMode}(h:RelR m u f):RelR m' u f:=by
 cases h with
 |of h=>exact .of (h.mono hm)
 |done v=>exact .done v
theorem RelR.settle{u:Option AV}{f:FrameMode}(h:RelR m u f):RelU m u (Go.settle f):=by
 cases h with
 |of h=>cases h with
  |ret=>exact .ret
  |panic h=>exact .panic h
 |done v=>exact .ret
theorem RelD.nil_eq{l:List Deferred}(h:RelD m [] l):l=[]:=by cases h;rfl
theorem z4a1:z137 P w0 z41d:=fun _ _ _ _ _ h=>by cases h
theorem z39e{o:Op}(h:z2c2 o=true):∃c,o=.call c∧c.callee=.builtin .recover:=by
 unfold z2c2 at h
 split at h
 ·rename_i c
  split at h
  ·rename_i hc
   exact⟨c,rfl,hc⟩
  ·cases h
 ·cases h
theorem z3da{nx:ANext}{r:Result Next}{H':AHeap}{d:Option Tmp}{a:AAct}{st:AStep}(hp:z241 w0 m H' nx r)(h:zc9 z41d a d (some (nx,H'))=some st):∀w',r≠ .ok .recover w':=by
 obtain⟨m',w',_,_,ho⟩:=hp;intro w2 e;subst e
 cases nx with
 |val v=>obtain⟨v',e,_⟩:=ho;cases e
 |skip=>cases ho
 |call f args=>cases h
 |panic v=>obtain⟨v',e,_⟩:=ho;cases e
 |defer f args cap=>obtain⟨x,y,e,_⟩:=ho;cases e
 |round b args=>cases h
theorem dOps_ok{N:Nat}{ops:Array Oper}{a1:AAct}{u1:Option AV}{h1:AHeap}{m0:Map}{c₀:Frame}{cs:List Frame}{Q:Exit→Act→List Frame→World→Prop}(hQ:∀m' act' mode' w',Ext m0 m'→RelAct m' N a1 act'→RelR m' u1 mode'→Fits w0 m' h1 w'→Q .normal act' ({c₀ with mode:=mode'}::cs) w'):
  ∀(l:List Oper) (k:Nat),(∀j,l[j]? =ops[k+j]?)→(∀o∈l,z13c N o=true)→∀(m:Map) (a:AAct) (act:Act) (u:Option AV) (mode:FrameMode) (h:AHeap) (w:World),Ext m0 m→RelAct m N a act→RelR m u mode→Fits w0 m h w→dOps P ops l a u h=some (a1,u1,h1)→
  wpOpsS P ops Q (List.range' k l.length) act ({c₀ with mode:=mode}::cs) w:=by
 intro l
 induction l with
 |nil=>
  intro k _ _ m a act u mode h w hx ha hu F hd;simp only[dOps,Option.some.injEq,Prod.mk.injEq] at hd;obtain⟨rfl,rfl,rfl⟩:=hd;exact hQ m act mode w hx ha hu F
 |cons o l ih=>
  intro k hk hN m a act u mode h w hx ha hu F hd;have h0:ops[k]? =some o:=by simpa using (hk 0).symm
  have hk':∀j,l[j]? =ops[k+1+j]?:=fun j=>by have:=hk (j+1);simpa [Nat.add_assoc,Nat.add_comm 1 j] using this
  have hN':∀o∈l,z13c N o=true:=fun o ho=>hN o (List.mem_cons_of_mem _ ho)
  have hdst:∀t,o.dst=some t→t<N:=by
   intro t ht;have:=hN o (List.mem_cons_self ..);simp only[z13c,ht] at this;exact Nat.le_of_ble_eq_true this
  simp only[List.length_cons,List.range'_succ,wpOpsS,h0];simp only[dOps] at hd
  split at hd
  ·cases hd
  ·rename_i hg
   have hw:Region.wanted o (yielded ops act.tmps)=true:=by simp[Region.wanted,hg]
   rw[hw];simp only[if_true]
   split at hd
   ·rename_i hrec
    obtain⟨c,hc1,hc2⟩:=z39e hrec
    have hrun:(execOp act.eval o).run P w=.ok .recover w:=by
     obtain⟨dst,op,ty,pos,after,guard⟩:=o
     simp only at hc1;subst hc1
     simp[execOp,resolve,hc2,invoke,builtin]
    rw[hrun]
    simp only
    simp only[z50] at hd;cases hu with
    |of hu=>
     cases hu with
     |ret=>
      simp only[recoverD];exact ih (k+1) hk' hN' m _ _ none .returning h w hx (ha.put hdst (ds:=[]) (ds':=[]) .nifc .nil) (.of .ret) F hd
     | @panic v v' hv=>
      simp only[recoverD];exact ih (k+1) hk' hN' m _ _ none _ h w hx (ha.put hdst (ds:=[]) (ds':=[]) hv .nil) (.done v') F hd
    |done v'=>
     simp only[recoverD];exact ih (k+1) hk' hN' m _ _ none _ h w hx (ha.put hdst (ds:=[]) (ds':=[]) .nifc .nil) (.done v') F hd
   ·split at hd
    ·rename_i a2 h2 hst
     have hst':zc9 z41d a o.dst (opA P a.eval o h)=some (.go a2 h2):=by
      simp only[z126,hg,z3d] at hst;exact hst
     cases hop:opA P a.eval o h with
     |none=>rw[hop] at hst';cases hst'
     |some p=>
      obtain⟨nx,H1⟩:=p;rw[hop] at hst';have hpost:=z41b F o (fun x _ v hv=>z261 (fun t _=>ha.tmps t) v hv) hop;have hnr:=z3da hpost hst'
      have hup:o.upon P act (fun a' w'=>wpOpsS P ops Q (List.range' (k+1) l.length) a' ({c₀ with mode:=mode}::cs) w') (fun e a' w'=>Q e a' ({c₀ with mode:=mode}::cs) w') ((execOp act.eval o).run P w):=by
       refine z3c4 z4a1 hpost hst' ?_ (fun v h' e=>by cases e);intro a' h' e m' w' v v' ds ds' he F' hv e2 hds
       cases e
       subst e2;exact ih (k+1) hk' hN' m' _ _ u mode h2 w' (hx.trans he) ((ha.mono he.le).put hdst hv hds) (hu.mono he.le) F' hd
      split
      ·rename_i w' e;exact absurd e (hnr w')
      ·exact hup
    ·cases hd
end
end
noncomputable section
open Go.RowKit
section
variable {P:Program}{m:Map}{w0:Base}{w:World}{lf:Nat}{call:zc}{H:AHeap}
theorem CallsD.mono{f:FuncId}{args:Array Value}{u:FrameMode}{w:World}{R R':Ending→FrameMode→World→Prop}(h:CallsD P f args u w R)(hr:∀e u' w',R e u' w'→R' e u' w'):CallsD P f args u w R':=
 fun c cs hu=>let ⟨e,u',w',fr,r,rest⟩:=h c cs hu;⟨e,u',w',fr,hr _ _ _ r,rest⟩
def saysTrue:Option (ARes×AHeap)→Bool
 |some (.ret (.bool b),_)=>b
 |_=>false
end
end
noncomputable section
open Go.RowKit
abbrev Fr:=List (Nat×AV)
def Fr.get:Fr→Nat→Option AV
 |[],_=>none
 |(i,v)::l,t=>match Nat.beq i t with
  |true=>some v
  |false=>Fr.get l t
def Fr.eval(l:Fr):Operand→Option AV
 | .tmp t=>l.get t
 | .const v=>z107 v
 | .global g=>some (.gptr g 0)
 | .func f=>some (.fn f [] [])
def Fr.tree:Fr→T AV
 |[]=>.e
 |(i,v)::l=>(Fr.tree l).set i v
theorem Fr.get_tree:∀(l:Fr) (t:Nat),l.tree.get t=l.get t
 |[],t=>y55 t
 |(i,v)::l,t=>by
  unfold Fr.get
  split
  ·rename_i h
   have:=Nat.eq_of_beq_eq_true h;subst this;exact y1c _ _ _
  ·rename_i h
   have:i≠t:=fun e=>by subst e;rw[Nat.beq_refl] at h;cases h
   rw[Fr.tree,y1d _ _ this];exact Fr.get_tree l t
theorem y19(l:Fr)(ds:List (FuncId×List AV×List AV)):(⟨l.tree,ds⟩:AAct).eval=l.eval:=by
 funext x
 cases x with
 |tmp t=>exact l.get_tree t
 |_=>rfl
theorem y13(l:Fr):l.tree.get=l.get:=by funext t;exact l.get_tree t
def Fr.sub(l l':Fr):Prop:=∀t v,l'.get t=some v→l.get t=some v
theorem y53(l:Fr):l.sub []:=fun _ _ h=>by cases h
theorem y51{l l':Fr}{t:Nat}{v:AV}(h:l.get t=some v)(k:l.sub l'):l.sub ((t,v)::l'):=fun u x hx=>by
 unfold Fr.get at hx
 split at hx
 ·rename_i e
  have:=Nat.eq_of_beq_eq_true e;subst this;simp only[Option.some.injEq] at hx;subst hx;exact h
 ·exact k u x hx
abbrev z19c:=List (FuncId×List AV×List AV)
section
variable (P:Program)(w0:Base)(m0:Map)(N:Nat)
def Go(Q:Act→World→Prop)(l:Fr)(ds:z19c)(h:AHeap):Prop:=∀(m:Map) (act:Act) (w:World),Ext m0 m→RelAct m N ⟨l.tree,ds⟩ act→Fits w0 m h w→Q act w
def W(c:Code)(Q:Exit→Act→World→Prop)(l:Fr)(ds:z19c)(h:AHeap):Prop:=Go w0 m0 N (c.wp P Q) l ds h
def WL(ops:Array Oper)(i:Nat)(Q:Exit→Act→World→Prop)(l:Fr)(ds:z19c)(h:AHeap):Prop:=Go w0 m0 N (wpList P ops Q (ops.toList.drop i)) l ds h
def InL(c:Code)(Q:Exit→Act→World→Prop)(act:Act)(w:World):Prop:=∀(b:Frame) (k:List Item) (cs:List Frame),∃e a' w',Q e a' w'∧Arrives P (lone (b.at act (.code c:: .inLoop c::k)) cs w) b k cs e a' w'
end
section
variable {P:Program}{w0:Base}{m0:Map}{N:Nat}{l l':Fr}{ds:z19c}{h h':AHeap}{Q:Exit→Act→World→Prop}{K:Act→World→Prop}
theorem RelAct.weaken{m:Map}{act:Act}(hs:l.sub l')(hr:RelAct m N ⟨l.tree,ds⟩ act):RelAct m N ⟨l'.tree,ds⟩ act where
 size:=hr.size
 tmps t:=fun v hv=>hr.tmps t v (by
  have hv:l'.tree.get t=some v:=hv;rw[Fr.get_tree] at hv;show l.tree.get t=some v;rw[Fr.get_tree];exact hs t v hv)
 defers:=hr.defers
theorem Go.weaken(hs:l.sub l')(hk:Go w0 m0 N K l' ds h):Go w0 m0 N K l ds h:=fun m act w he ha F=>hk m act w he (ha.weaken hs) F
theorem W.weaken{c:Code}(hs:l.sub l')(hk:W P w0 m0 N c Q l' ds h):W P w0 m0 N c Q l ds h:=Go.weaken hs hk
theorem WL.weaken{ops:Array Oper}{i:Nat}(hs:l.sub l')(hk:WL P w0 m0 N ops i Q l' ds h):WL P w0 m0 N ops i Q l ds h:=Go.weaken hs hk
def y4:Code→Code
 | .seq x _=>x
 | .cond _ x _=>x
 | .block _ x=>x
 | .loop x=>x
 | .scope x=>x
 |c=>c
def y3:Code→Code
 | .seq _ y=>y
 | .cond _ _ y=>y
 |c=>c
def y40:Code→Operand
 | .cond c _ _=>c
 |_=>.tmp 0
def Code.num:Code→Nat
 | .block id _=>id
 | .exit id=>id
 |_=>0
def Code.ops:Code→Array Oper
 | .region _ ops _=>ops
 |_=> #[]
def Code.kind:Code→Nat
 | .skip=>0
 | .seq _ _=>1
 | .cond _ _ _=>2
 | .block _ _=>3
 | .loop _=>4
 | .exit _=>5
 | .ret=>6
 | .region _ _ false=>7
 | .region _ _ true=>8
 |_=>9
theorem W.skip{c:Code}(hc:Code.kind c=0)(hk:Go w0 m0 N (Q .normal) l ds h):W P w0 m0 N c Q l ds h:=by
 cases c<;>first|(exact fun m act w he ha F=>wp_skip (hk m act w he ha F))|(simp[Code.kind] at hc;done)|(rename_i d;cases d<;>simp[Code.kind] at hc)
theorem W.seq{c:Code}(hc:Code.kind c=1)(hk:W P w0 m0 N (y4 c) (Exit.then ((y3 c).wp P Q) Q) l ds h):W P w0 m0 N c Q l ds h:=by
 cases c<;>first|(exact fun m act w he ha F=>wp_seq (hk m act w he ha F))|(simp[Code.kind] at hc;done)|(rename_i d;cases d<;>simp[Code.kind] at hc)
theorem y4f{c:Code}(hc:Code.kind c=2)(hv:l.eval (y40 c)=some (.bool true))(hk:W P w0 m0 N (y4 c) Q l ds h):W P w0 m0 N c Q l ds h:=by
 cases c<;>first|(exact fun m act w he ha F=>wp_cond_true (zf2 (z261 (a:=⟨l.tree,ds⟩) (fun t _=>ha.tmps t) _ (by rw[y19];exact hv))) (hk m act w he ha F))|(simp[Code.kind] at hc;done)|(rename_i d;cases d<;>simp[Code.kind] at hc)
theorem y4c{c:Code}(hc:Code.kind c=2)(hv:l.eval (y40 c)=some (.bool false))(hk:W P w0 m0 N (y3 c) Q l ds h):W P w0 m0 N c Q l ds h:=by
 cases c<;>first|(exact fun m act w he ha F=>wp_cond_false (zf2 (z261 (a:=⟨l.tree,ds⟩) (fun t _=>ha.tmps t) _ (by rw[y19];exact hv))) (hk m act w he ha F))|(simp[Code.kind] at hc;done)|(rename_i d;cases d<;>simp[Code.kind] at hc)
theorem W.block{c:Code}(hc:Code.kind c=3)(hk:W P w0 m0 N (y4 c) (Exit.inBlock (Code.num c) Q) l ds h):W P w0 m0 N c Q l ds h:=by
 cases c<;>first|(exact fun m act w he ha F=>wp_block (hk m act w he ha F))|(simp[Code.kind] at hc;done)|(rename_i d;cases d<;>simp[Code.kind] at hc)
theorem W.exit{c:Code}(hc:Code.kind c=5)(hk:Go w0 m0 N (Q (.exit (Code.num c))) l ds h):W P w0 m0 N c Q l ds h:=by
 cases c<;>first|(exact fun m act w he ha F=>wp_exit (hk m act w he ha F))|(simp[Code.kind] at hc;done)|(rename_i d;cases d<;>simp[Code.kind] at hc)
theorem W.ret{c:Code}(hc:Code.kind c=6)(hk:Go w0 m0 N (Q .ret) l ds h):W P w0 m0 N c Q l ds h:=by
 cases c<;>first|(exact fun m act w he ha F=>wp_ret (hk m act w he ha F))|(simp[Code.kind] at hc;done)|(rename_i d;cases d<;>simp[Code.kind] at hc)
theorem z12d{c:Code}{e:Exit}{m:Machine}{b:Frame}{k:List Item}{cs:List Frame}{a:Act}{w:World}(hne:e≠ .normal)(harr:Arrives P m b (.inLoop c::k) cs e a w):Arrives P m b k cs e a w:=
 .pass (x:=.inLoop c) rfl (fun _ _=>.inl hne) harr
theorem InL.round{c:Code}{act:Act}{w:World}(hk:c.wp P (Exit.then (InL P c Q) Q) act w):InL P c Q act w:=by
 intro b k cs;obtain⟨e1,a1,w1,hq,harr⟩:=hk b (.inLoop c::k) cs
 cases e1 with
 |normal=>
  obtain⟨e3,a3,w3,hq3,harr3⟩:=hq b k cs;exact⟨e3,a3,w3,hq3,.of_steps (Steps.trans harr (.one step_inLoop)) harr3⟩
 |exit id=>exact⟨_,a1,w1,hq,z12d (by simp) harr⟩
 |goto l=>exact⟨_,a1,w1,hq,z12d (by simp) harr⟩
 |ret=>exact⟨_,a1,w1,hq,z12d (by simp) harr⟩
 |panic ch=>exact⟨_,a1,w1,hq,z12d (by simp) harr⟩
 |outgrown=>exact⟨_,a1,w1,hq,z12d (by simp) harr⟩
theorem z4ad{c:Code}(hc:Code.kind c=4):∃x,c=.loop x:=by
 cases c<;>first|exact⟨_,rfl⟩|(simp[Code.kind] at hc;done)|(rename_i d;cases d<;>simp[Code.kind] at hc)
theorem W.loop{c:Code}(hc:Code.kind c=4)(hk:Go w0 m0 N (InL P (y4 c) Q) l ds h):W P w0 m0 N c Q l ds h:=by
 obtain⟨x,rfl⟩:=z4ad hc;intro m act w he ha F b k cs;obtain⟨e,a',w',q,r⟩:=hk m act w he ha F b k cs;exact⟨e,a',w',q,.of_steps (.one step_loop) r⟩
theorem Go.round{c:Code}(hk:W P w0 m0 N c (Exit.then (InL P c Q) Q) l ds h):Go w0 m0 N (InL P c Q) l ds h:=fun m act w he ha F=>InL.round (hk m act w he ha F)
theorem W.region{c:Code}(hc:Code.kind c=7)(hk:WL P w0 m0 N (Code.ops c) 0 Q l ds h):W P w0 m0 N c Q l ds h:=by
 cases c with
 |region id ops d=>cases d with
  |false=>exact fun m act w he ha F=>wp_region_list (hk m act w he ha F)
  |true=>simp[Code.kind] at hc
 |_=>simp[Code.kind] at hc
theorem WL.nil{ops:Array Oper}{i:Nat}(hi:Nat.beq ops.size i=true)(hk:Go w0 m0 N (Q .normal) l ds h):WL P w0 m0 N ops i Q l ds h:=by
 intro m act w he ha F
 have:ops.toList.drop i=[]:=by
  have:=Nat.eq_of_beq_eq_true hi
  simp[←this]
 rw[this];exact hk m act w he ha F
def z142(N:Nat)(ops:Array Oper)(i:Nat):Option (Option Nat):=match ops[i]? with
 |some o=>match z13c N o with
  |true=>some o.dst
  |false=>none
 |none=>none
def z12e(P:Program)(ρ:z1c6)(ops:Array Oper)(i:Nat)(h:AHeap):za8:=match ops[i]? with
 |some o=>opA P ρ o h
 |none=>none
def z2a(ops:Array Oper)(tm:Nat→Option AV)(i:Nat):Option Bool:=match ops[i]? with
 |some o=>z3d ops tm o.guard
 |none=>none
def Fr.put(l:Fr):Option Nat→AV→Fr
 |some d,v=>(d,v)::l
 |none,_=>l
theorem y22(l:Fr)(d:Option Nat)(v:AV)(ds:z19c):(⟨l.tree,ds⟩:AAct).put d v=⟨(l.put d v).tree,ds⟩:=by
 cases d<;>rfl
theorem WL.step{ops:Array Oper}{i:Nat}{o:Oper}{call:zc}(ho:ops[i]? =some o)(hd:z13c N o=true)(hc:z137 P w0 call){d:Option Nat}{v:AV}{ds':z19c}(hst:z126 P call ops o ⟨l.tree,ds⟩ h=some (.go ⟨(l.put d v).tree,ds'⟩ h'))(hk:WL P w0 m0 N ops (i+1) Q (l.put d v) ds' h'):WL P w0 m0 N ops i Q l ds h:=by
 intro m act w he ha F
 have hl:i<ops.toList.length:=by
  rcases Array.getElem?_eq_some_iff.1 ho with⟨h1,_⟩
  simpa using h1
 have hdrop:ops.toList.drop i=o::ops.toList.drop (i+1):=by
  rw[List.drop_eq_getElem_cons hl]
  congr 1
  rcases Array.getElem?_eq_some_iff.1 ho with⟨h1,h2⟩
  simpa using h2
 rw[hdrop,wpList];refine z483 hc ha F hd hst (fun a' h2 e m' act' w' he' ha' F'=>?_) (fun v h2 e=>by cases e);simp only[AStep.go.injEq] at e;obtain⟨rfl,rfl⟩:=e;exact hk m' act' w' (he.trans he') ha' F'
theorem y58{ops:Array Oper}{i:Nat}{o:Oper}{call:zc}(ho:ops[i]? =some o)(hd:z13c N o=true)(hc:z137 P w0 call){v:AV}(hst:z126 P call ops o ⟨l.tree,ds⟩ h=some (.panic v h'))(hk:∀v' m,Ext m0 m→Rel m v v'→∀act w,RelAct m N ⟨l.tree,ds⟩ act→Fits w0 m h' w→Q (.panic [{v:=v',recovered:=false}]) act w):WL P w0 m0 N ops i Q l ds h:=by
 intro m act w he ha F
 have hl:i<ops.toList.length:=by
  rcases Array.getElem?_eq_some_iff.1 ho with⟨h1,_⟩
  simpa using h1
 have hdrop:ops.toList.drop i=o::ops.toList.drop (i+1):=by
  rw[List.drop_eq_getElem_cons hl]
  congr 1
  rcases Array.getElem?_eq_some_iff.1 ho with⟨h1,h2⟩
  simpa using h2
 rw[hdrop,wpList];refine z483 hc ha F hd hst (fun a' h2 e=>by cases e) (fun v2 h2 e m' w' v' he' F' hv=>?_);simp only[AStep.panic.injEq] at e;obtain⟨rfl,rfl⟩:=e;exact hk v' m' (he.trans he') hv act w' (ha.mono he'.le) F'
theorem z151{ops:Array Oper}{i:Nat}{d:Option Nat}(hd:z142 N ops i=some d):∃o,ops[i]? =some o∧z13c N o=true∧o.dst=d:=by
 unfold z142 at hd
 split at hd
 ·rename_i o ho
  split at hd
  ·rename_i hk
   simp only[Option.some.injEq] at hd;exact⟨o,ho,hk,hd⟩
  ·cases hd
 ·cases hd
def z1cc:zc:=fun _ _ _=>none
theorem z14d:z137 P w0 z1cc:=fun _ _ _ _ _ h=>by cases h
theorem WL.val{ops:Array Oper}{i:Nat}{d:Option Nat}{v:AV}(hd:z142 N ops i=some d)(hw:z2a ops l.get i=some true)(hop:z12e P l.eval ops i h=some (.val v,h'))(hk:WL P w0 m0 N ops (i+1) Q (l.put d v) ds h'):WL P w0 m0 N ops i Q l ds h:=by
 obtain⟨o,ho,hok,rfl⟩:=z151 hd;refine WL.step (v:=v) (d:=o.dst) (ds':=ds) (call:=z1cc) ho hok z14d ?_ hk;have hw:z3d ops l.get o.guard=some true:=by simpa [z2a,ho] using hw
 have hop:opA P l.eval o h=some (.val v,h'):=by simpa [z12e,ho] using hop
 simp only[z126,y13,hw,y19,hop,zc9,z50,y22]
theorem WL.eff{ops:Array Oper}{i:Nat}(hd:z142 N ops i=some none)(hw:z2a ops l.get i=some true)(hop:z12e P l.eval ops i h=some (.skip,h'))(hk:WL P w0 m0 N ops (i+1) Q l ds h'):WL P w0 m0 N ops i Q l ds h:=by
 obtain⟨o,ho,hok,hdn⟩:=z151 hd;refine WL.step (v:=.tup []) (d:=none) (ds':=ds) (call:=z1cc) ho hok z14d ?_ hk;have hw:z3d ops l.get o.guard=some true:=by simpa [z2a,ho] using hw
 have hop:opA P l.eval o h=some (.skip,h'):=by simpa [z12e,ho] using hop
 simp only[z126,y13,hw,y19,hop,zc9,z50,y22,hdn]
theorem WL.not{ops:Array Oper}{i:Nat}{d:Option Nat}(hd:z142 N ops i=some d)(hw:z2a ops l.get i=some false)(hk:WL P w0 m0 N ops (i+1) Q (l.put d (.tup [])) ds h):WL P w0 m0 N ops i Q l ds h:=by
 obtain⟨o,ho,hok,rfl⟩:=z151 hd;refine WL.step (v:=.tup []) (d:=o.dst) (ds':=ds) (call:=z1cc) ho hok z14d ?_ hk;have hw:z3d ops l.get o.guard=some false:=by simpa [z2a,ho] using hw
 simp only[z126,y13,hw,z50,y22]
theorem WL.call{call:zc}(hc:z137 P w0 call){ops:Array Oper}{i:Nat}{d:Option Nat}{f:FuncId}{args:List AV}{v:AV}{h1:AHeap}(hd:z142 N ops i=some d)(hw:z2a ops l.get i=some true)(hop:z12e P l.eval ops i h=some (.call f args,h1))(hcall:call f args h1=some (.ret v,h'))(hk:WL P w0 m0 N ops (i+1) Q (l.put d v) ds h'):WL P w0 m0 N ops i Q l ds h:=by
 obtain⟨o,ho,hok,rfl⟩:=z151 hd;refine WL.step (v:=v) (d:=o.dst) (ds':=ds) (call:=call) ho hok hc ?_ hk;have hw:z3d ops l.get o.guard=some true:=by simpa [z2a,ho] using hw
 have hop:opA P l.eval o h=some (.call f args,h1):=by simpa [z12e,ho] using hop
 simp only[z126,y13,hw,y19,hop,zc9,hcall,z1f3,z50,y22]
theorem y3d{call:zc}(hc:z137 P w0 call){ops:Array Oper}{i:Nat}{d:Option Nat}{f:FuncId}{args:List AV}{v:AV}{h1:AHeap}(hd:z142 N ops i=some d)(hw:z2a ops l.get i=some true)(hop:z12e P l.eval ops i h=some (.call f args,h1))(hcall:call f args h1=some (.panic v,h'))(hk:∀v' m,Ext m0 m→Rel m v v'→∀act w,RelAct m N ⟨l.tree,ds⟩ act→Fits w0 m h' w→Q (.panic [{v:=v',recovered:=false}]) act w):WL P w0 m0 N ops i Q l ds h:=by
 obtain⟨o,ho,hok,rfl⟩:=z151 hd;refine y58 (call:=call) ho hok hc ?_ hk;have hw:z3d ops l.get o.guard=some true:=by simpa [z2a,ho] using hw
 have hop:opA P l.eval o h=some (.call f args,h1):=by simpa [z12e,ho] using hop
 simp only[z126,y13,hw,y19,hop,zc9,hcall,z1f3]
theorem WL.pan{ops:Array Oper}{i:Nat}{d:Option Nat}{v:AV}(hd:z142 N ops i=some d)(hw:z2a ops l.get i=some true)(hop:z12e P l.eval ops i h=some (.panic v,h'))(hk:∀v' m,Ext m0 m→Rel m v v'→∀act w,RelAct m N ⟨l.tree,ds⟩ act→Fits w0 m h' w→Q (.panic [{v:=v',recovered:=false}]) act w):WL P w0 m0 N ops i Q l ds h:=by
 obtain⟨o,ho,hok,rfl⟩:=z151 hd;refine y58 (call:=z1cc) ho hok z14d ?_ hk;have hw:z3d ops l.get o.guard=some true:=by simpa [z2a,ho] using hw
 have hop:opA P l.eval o h=some (.panic v,h'):=by simpa [z12e,ho] using hop
 simp only[z126,y13,hw,y19,hop,zc9]
def WD(P:Program)(w0:Base)(m0:Map)(N:Nat)(call:zc)(ops:Array Oper)(plan:List Nat)(rs:List Rec)(K:Act→World→Prop)(l:Fr)(ds:z19c)(h:AHeap):Prop:=
 ∃(l':Fr) (h':AHeap),dGo P call ops plan ⟨l.tree,ds⟩ h rs=some (.normal,⟨l'.tree,ds⟩,h')∧Go w0 m0 N K l' ds h'
theorem y21(hm:P.follows .mixedOrders=true){call:zc}(hc:z137 P w0 call){c:Code}{plan:List Nat}(hk:Code.kind c=8)(hok:z2b0 N (Code.ops c).toList=true)(hp:z417 P (Code.ops c)=some plan)(hd:WD P w0 m0 N call (Code.ops c) plan [] (Q .normal) l ds h):W P w0 m0 N c Q l ds h:=by
 cases c with
 |region id ops d=>cases d with
  |true=>
   intro m act w he ha F;obtain⟨l',h',hgo,hq⟩:=hd
   have hdraw:z475 P call ops ⟨l.tree,ds⟩ h=some (.normal,⟨l'.tree,ds⟩,h'):=by
    unfold z475;have hp:z417 P ops=some plan:=hp;rw[hp];exact hgo
   refine wp_mono (draw_ok hm hc (z38b _ hok) ha F hdraw) ?_
   rintro e' act2 w2 ⟨m2,hx,ha2,F2,hex⟩
   cases hex;exact hq m2 act2 w2 (he.trans hx) ha2 F2
  |false=>simp[Code.kind] at hk
 |_=>simp[Code.kind] at hk
theorem WD.nil{call:zc}{ops:Array Oper}{rs:List Rec}(hk:Go w0 m0 N K l ds h):WD P w0 m0 N call ops [] rs K l ds h:=⟨l,h,rfl,hk⟩
def z2ee(P:Program)(ops:Array Oper)(i:Nat):Nat:=match ops[i]? with
 |some o=>match z1bf P ops i o.op with
  |0=>0
  |3=>2
  |_=>1
 |none=>9
def z37e(P:Program)(ops:Array Oper)(i:Nat)(l:Fr)(h:AHeap):Rec:=match ops[i]? with
 |some o=>⟨i,o,h.next,z209 o.op,zf6 P ⟨l.tree,[]⟩ o.op⟩
 |none=>⟨i,default,0,0,[]⟩
theorem z3fe(P:Program)(t:T AV)(ds:z19c)(o:Op):zf6 P ⟨t,ds⟩ o=zf6 P ⟨t,[]⟩ o:=by
 unfold zf6
 split
 ·rfl
 ·rename_i x
  have:(⟨t,ds⟩:AAct).eval x=(⟨t,[]⟩:AAct).eval x:=by cases x<;>rfl
  rw[this]
 ·rfl
def z44e(k:Nat)(r:Rec)(rs:List Rec):List Rec:=match k with
 |1=>r::rs
 |_=>rs
theorem WD.step{call:zc}{ops:Array Oper}{i:Nat}{plan:List Nat}{rs:List Rec}{o:Oper}{d:Option Nat}{v:AV}{k:Nat}(ho:ops[i]? =some o)(hst:z126 P call ops o ⟨l.tree,ds⟩ h=some (.go ⟨(l.put d v).tree,ds⟩ h'))(hkind:z2ee P ops i=k)(hwant:z2a ops l.get i=some true∨k≠1)(hrec:k=2→z19a (z2e6 P ops i ⟨(l.put d v).tree,ds⟩ h') rs=true)(hk9:k≠9)(hk:WD P w0 m0 N call ops plan (z44e k (z37e P ops i l h) rs) K (l.put d v) ds h'):WD P w0 m0 N call ops (i::plan) rs K l ds h:=by
 obtain⟨l2,h2,hgo,hq⟩:=hk;refine⟨l2,h2,?_,hq⟩;unfold dGo;simp only[ho,hst];unfold z2ee at hkind;simp only[ho] at hkind
 split at hkind
 ·rename_i hx
  subst hkind;simp only[hx];exact hgo
 ·rename_i hx
  subst hkind;simp only[hx,hrec rfl,if_true];exact hgo
 ·rename_i h0 h3
  subst hkind
  split
  ·rename_i e;exact absurd e h0
  ·rename_i e;exact absurd e h3
  ·have hw : z3d ops l.get o.guard = some true := by
    rcases hwant with hw|hw
    ·simpa [z2a,ho] using hw
    ·exact absurd rfl hw
   simp only[y13,hw]
   have:z37e P ops i l h=⟨i,o,h.next,z209 o.op,zf6 P ⟨l.tree,ds⟩ o.op⟩:=by
    simp only[z37e,ho,z3fe P l.tree ds]
   rw[←this];exact hgo
theorem WD.val{call:zc}{ops:Array Oper}{i:Nat}{plan:List Nat}{rs:List Rec}{d:Option Nat}{v:AV}{k:Nat}(hd:z142 N ops i=some d)(hw:z2a ops l.get i=some true)(hop:z12e P l.eval ops i h=some (.val v,h'))(hkind:z2ee P ops i=k)(hrec:k=2→z19a (z2e6 P ops i ⟨(l.put d v).tree,ds⟩ h') rs=true)(hk9:k≠9)(hk:WD P w0 m0 N call ops plan (z44e k (z37e P ops i l h) rs) K (l.put d v) ds h'):WD P w0 m0 N call ops (i::plan) rs K l ds h:=by
 obtain⟨o,ho,hok,rfl⟩:=z151 hd;refine WD.step ho ?_ hkind (.inl hw) hrec hk9 hk;have hw:z3d ops l.get o.guard=some true:=by simpa [z2a,ho] using hw
 have hop:opA P l.eval o h=some (.val v,h'):=by simpa [z12e,ho] using hop
 simp only[z126,y13,hw,y19,hop,zc9,z50,y22]
theorem WD.eff{call:zc}{ops:Array Oper}{i:Nat}{plan:List Nat}{rs:List Rec}{k:Nat}(hd:z142 N ops i=some none)(hw:z2a ops l.get i=some true)(hop:z12e P l.eval ops i h=some (.skip,h'))(hkind:z2ee P ops i=k)(hrec:k=2→z19a (z2e6 P ops i ⟨l.tree,ds⟩ h') rs=true)(hk9:k≠9)(hk:WD P w0 m0 N call ops plan (z44e k (z37e P ops i l h) rs) K l ds h'):WD P w0 m0 N call ops (i::plan) rs K l ds h:=by
 obtain⟨o,ho,hok,hdn⟩:=z151 hd;refine WD.step (d:=none) (v:=.tup []) ho ?_ hkind (.inl hw) hrec hk9 hk;have hw:z3d ops l.get o.guard=some true:=by simpa [z2a,ho] using hw
 have hop:opA P l.eval o h=some (.skip,h'):=by simpa [z12e,ho] using hop
 simp only[z126,y13,hw,y19,hop,zc9,z50,y22,hdn]
theorem WD.call{call:zc}{ops:Array Oper}{i:Nat}{plan:List Nat}{rs:List Rec}{d:Option Nat}{f:FuncId}{args:List AV}{v:AV}{h1:AHeap}{k:Nat}(hd:z142 N ops i=some d)(hw:z2a ops l.get i=some true)(hop:z12e P l.eval ops i h=some (.call f args,h1))(hcall:call f args h1=some (.ret v,h'))(hkind:z2ee P ops i=k)(hrec:k=2→z19a (z2e6 P ops i ⟨(l.put d v).tree,ds⟩ h') rs=true)(hk9:k≠9)(hk:WD P w0 m0 N call ops plan (z44e k (z37e P ops i l h) rs) K (l.put d v) ds h'):WD P w0 m0 N call ops (i::plan) rs K l ds h:=by
 obtain⟨o,ho,hok,rfl⟩:=z151 hd;refine WD.step ho ?_ hkind (.inl hw) hrec hk9 hk;have hw:z3d ops l.get o.guard=some true:=by simpa [z2a,ho] using hw
 have hop:opA P l.eval o h=some (.call f args,h1):=by simpa [z12e,ho] using hop
 simp only[z126,y13,hw,y19,hop,zc9,hcall,z1f3,z50,y22]
theorem WD.not{call:zc}{ops:Array Oper}{i:Nat}{plan:List Nat}{rs:List Rec}{d:Option Nat}{k:Nat}(hd:z142 N ops i=some d)(hw:z2a ops l.get i=some false)(hkind:z2ee P ops i=k)(hrec:k=2→z19a (z2e6 P ops i ⟨(l.put d (.tup [])).tree,ds⟩ h) rs=true)(hk9:k≠9)(hk:WD P w0 m0 N call ops plan rs K (l.put d (.tup [])) ds h):WD P w0 m0 N call ops (i::plan) rs K l ds h:=by
 obtain⟨o,ho,hok,rfl⟩:=z151 hd;have hw:z3d ops l.get o.guard=some false:=by simpa [z2a,ho] using hw
 have hst:z126 P call ops o ⟨l.tree,ds⟩ h=some (.go ⟨(l.put o.dst (.tup [])).tree,ds⟩ h):=by
  simp only[z126,y13,hw,z50,y22]
 obtain⟨l2,h2,hgo,hq⟩:=hk;refine⟨l2,h2,?_,hq⟩;unfold dGo;simp only[ho,hst];unfold z2ee at hkind;simp only[ho] at hkind
 split at hkind
 ·rename_i hx
  subst hkind;simp only[hx];exact hgo
 ·rename_i hx
  subst hkind;simp only[hx,hrec rfl,if_true];exact hgo
 ·rename_i h0 h3
  subst hkind
  split
  ·rename_i e;exact absurd e h0
  ·rename_i e;exact absurd e h3
  ·simp only [y13, hw]
   exact hgo
end
end
noncomputable section
open Go.RowKit
def Says(P:Program)(f:FuncId)(args:List AV)(h:AHeap)(r:ARes)(h':AHeap):Prop:=
 ∀(w0:Base) (m:Map) (w:World) (args':List Value),RelL m args args'→Fits w0 m h w→Calls P f ⟨args'⟩ w (RetOK w0 m h' r)
def SaysAll(P:Program)(call:zc):Prop:=∀(f:FuncId) (args:List AV) (h:AHeap) (r:ARes) (h':AHeap),call f args h=some (r,h')→Says P f args h r h'
theorem SaysAll.ok{P:Program}{call:zc}(hs:SaysAll P call)(w0:Base):z137 P w0 call:=fun f args h r h' hr m w args' ha F=>hs f args h r h' hr w0 m w args' ha F
theorem SaysAll.of{P:Program}{call:zc}(hs:∀w0,z137 P w0 call):SaysAll P call:=fun f args h r h' hr w0 m w args' ha F=>hs w0 f args h r h' hr m w args' ha F
abbrev FnT:=List AV→AHeap→Option (ARes×AHeap)
def z404(P:Program)(f:FuncId)(s:FnT):Prop:=∀(args:List AV) (h:AHeap) (r:ARes) (h':AHeap),s args h=some (r,h')→Says P f args h r h'
def z327:List (FuncId×FnT)→zc
 |[],_,_,_=>none
 |(g,s)::l,f,args,h=>match Nat.beq g f with
  |true=>s args h
  |false=>z327 l f args h
theorem z46b{P:Program}:SaysAll P (z327 []):=fun _ _ _ _ _ h=>by cases h
theorem zf{P:Program}{g:FuncId}{s:FnT}{l:List (FuncId×FnT)}(hs:z404 P g s)(hl:SaysAll P (z327 l)):SaysAll P (z327 ((g,s)::l)):=by
 intro f args h r h' hr;unfold z327 at hr
 split at hr
 ·rename_i e
  have:=Nat.eq_of_beq_eq_true e;subst this;exact hs _ _ _ _ hr
 ·exact hl _ _ _ _ _ hr
def resG(P:Program)(g:Nat→Option AV)(h:AHeap):ResultVar→Option AV
 | .tmp t=>g t
 | .cell t ty=>match zb6 P h ty (g t) with
  |some (.val v,_)=>some v
  |_=>none
def z117(P:Program)(g:Nat→Option AV)(h:AHeap):List ResultVar→Option (List AV)
 |[]=>some []
 |r::l=>match resG P g h r,z117 P g h l with
  |some v,some vs=>some (v::vs)
  |_,_=>none
theorem z33a(P:Program)(a:AAct)(h:AHeap):∀(l:List ResultVar),z117 P a.tmps.get h l=z14a P a h l
 |[]=>rfl
 |r::l=>by
  have h1:resG P a.tmps.get h r=resA P a h r:=by cases r<;>rfl
  simp only[z117,z14a,z33a P a h l,h1]
  cases resA P a h r<;>cases z14a P a h l<;>rfl
section
variable {P:Program}{w0:Base}{m0:Map}{N:Nat}{l l':Fr}{ds:z19c}{h h':AHeap}{r:ARes}
abbrev Fin(P:Program)(fn:Func)(w0:Base)(m0:Map)(r:ARes)(h':AHeap):Exit→Act→World→Prop:=bodyPostD P fn (RetOK w0 m0 h' r)
theorem y5e{fn:Func}(hr:z365 h (z117 P l.get h fn.results.toList)=some (r,h')):Go w0 m0 N (Fin P fn w0 m0 r h' .ret) l [] h:=by
 intro m act w he ha F
 have hr:z365 h (z14a P ⟨l.tree,[]⟩ h fn.results.toList)=some (r,h'):=by
  rw[←z33a];show z365 h (z117 P l.tree.get h _)=_;rw[y13];exact hr
 obtain⟨v,v',rfl,rfl,hrun,hv⟩:=z300 ha.tmps F hr;have hd:act.defers=[]:=(ha.defers).nil_eq;show Leaves P fn act.tmps (RetOK w0 m0 h' (.ret v)) act.defers .returning w;rw[hd];exact⟨v',hrun,m,he,F,v',rfl,hv⟩
theorem Go.leaveN{fn:Func}(hr:z365 h (z117 P l.get h fn.results.toList)=some (r,h')):Go w0 m0 N (Fin P fn w0 m0 r h' .normal) l [] h:=
 fun m act w he ha F=>y5e (m0:=m0) (N:=N) hr m act w he ha F
theorem z3d7{fn:Func}{v:AV}{v':Value}{m:Map}(he:Ext m0 m)(hv:Rel m v v'){act:Act}{w:World}(ha:RelAct m N ⟨l.tree,[]⟩ act)(F:Fits w0 m h' w):Fin P fn w0 m0 (.panic v) h' (.panic [{v:=v',recovered:=false}]) act w:=by
 have hd:act.defers=[]:=(ha.defers).nil_eq;show Leaves P fn act.tmps (RetOK w0 m0 h' (.panic v)) act.defers (.panicking [{v:=v',recovered:=false}]) w;rw[hd];exact⟨m,he,F,v',rfl,hv⟩
def z1ea:Nat→List AV→Fr
 |_,[]=>[]
 |i,v::l=>(i,v)::z1ea (i+1) l
theorem z265:∀(l:List AV) (i t:Nat) (v:AV),(z1ea i l).get t=some v→i≤t∧l[t - i]? =some v
 |[],i,t,v,h=>by cases h
 |x::l,i,t,v,h=>by
  unfold z1ea Fr.get at h
  split at h
  ·rename_i e
   have:=Nat.eq_of_beq_eq_true e;subst this;simp only[Option.some.injEq] at h;subst h
   simp
  ·obtain ⟨h1, h2⟩ := z265 l (i + 1) t v h
   refine⟨by omega,?_⟩;rw[show t - i=(t - (i+1))+1 by omega,List.getElem?_cons_succ];exact h2
theorem says_of{f:FuncId}{fn:Func}{args:List AV}(hf:P.funcs[f]? =some fn){c:Code}(hb:fn.body=some c)(hlen:Nat.ble args.length fn.ntmps=true)(hw:∀w0 m0,W P w0 m0 fn.ntmps c (Fin P fn w0 m0 r h') (z1ea 0 args) [] h):Says P f args h r h':=by
 intro w0 m w args' ha F;have hlen:=Nat.le_of_ble_eq_true hlen;have hl:=ha.length
 have hra : RelAct m fn.ntmps ⟨(z1ea 0 args).tree, []⟩ { tmps := (⟨args'⟩ : Array Value) ++ Array.replicate (fn.ntmps - (⟨args'⟩ : Array Value).size) undef, defers := [] } := {
  size := by simp; omega
  tmps := fun t v hv => by
   have hv : (z1ea 0 args).tree.get t = some v := hv;rw [Fr.get_tree] at hv
   obtain ⟨_, hv⟩ := z265 _ _ _ _ hv
   rw [Nat.sub_zero] at hv
   obtain ⟨y, hy, hr⟩ := ha.get t v hv
   have ht : t < args'.length := (List.getElem?_eq_some_iff.1 hy).1;refine ⟨y, ?_, hr⟩
   simp only
   rw [Array.getElem?_append_left (by simpa using ht)]
   simpa using hy
  defers := .nil }
 exact calls_of_wp_defers hf hb (hw w0 m m _ w (Ext.refl m) hra F)
end
mutual
def AV.scal:AV→Bool
 | .bool _| .int _ _| .str _ _| .nilp| .nsl| .nmp| .nfn| .nifc=>true
 | .fn _ a b=>y35 a&&y35 b
 | .ifc _ v=>AV.scal v
 | .agg l=>y35 l
 | .tup l=>y35 l
 |_=>false
def y35:List AV→Bool
 |[]=>true
 |x::l=>AV.scal x&&y35 l
end
def ARes.val:ARes→AV
 | .ret v=>v
 | .panic v=>v
theorem Calls.keep{P:Program}{f:FuncId}{args:Array Value}{w:World}{R R':Ending→World→Prop}(h:Calls P f args w R)(hr:∀e w',R e w'→R' e w'):Calls P f args w R':=Calls.mono h hr
end
noncomputable section
open Go.RowKit
def ARes.same:ARes→ARes→Bool
 | .ret v,.ret w=>AV.same v w
 | .panic v,.panic w=>AV.same v w
 |_,_=>false
abbrev Memo:=List (FuncId×List AV×ARes)
def Memo.has:Memo→FuncId→Bool
 |[],_=>false
 |(g,_)::l,f=>match Nat.beq g f with
  |true=>true
  |false=>Memo.has l f
def Memo.find:Memo→FuncId→List AV→Option ARes
 |[],_,_=>none
 |(g,as,r)::l,f,args=>match Nat.beq g f with
  |true=>match y27 as args with
   |true=>some r
   |false=>Memo.find l f args
  |false=>Memo.find l f args
def Memo.run(P:Program)(lf:Nat)(L:Memo)(f:FuncId)(call:zc)(args:List AV)(h:AHeap):Option (ARes×AHeap):=match L.find f args with
 |some r=>some (r,h)
 |none=>bodyA P call lf f args h
def Memo.ok(P:Program)(L:Memo):Prop:=∀f args r,L.find f args=some r→∀h,Says P f args h r h
def came(r:ARes):Option (ARes×AHeap)→Bool
 |some (s,_)=>ARes.same s r
 |none=>false
end
noncomputable section
abbrev z2dd:=Bool→Nat→List AV→AHeap→Option (ARes×AHeap)
def stepOutR(both:z2dd)(a:AAct)(d:Option Tmp):za8→Option AStep
 |some (.val v,h)=>z50 a d v h
 |some (.skip,h)=>z50 a d (.tup []) h
 |some (.call f args,h)=>z1f3 a d (both false f args h)
 |some (.round b args,h)=>z1f3 a d (both true b args h)
 |some (.panic v,h)=>some (.panic v h)
 |_=>none
def stepR(P:Program)(both:z2dd)(ops:Array Oper)(o:Oper)(a:AAct)(h:AHeap):Option AStep:=
 match z3d ops a.tmps.get o.guard with
 |some true=>stepOutR both a o.dst (opA P a.eval o h)
 |some false=>z50 a o.dst (.tup []) h
 |none=>none
def opsR(P:Program)(both:z2dd)(ops:Array Oper)(l:List Oper):AAct→AHeap→zc8:=
 @List.rec Oper (fun _=>AAct→AHeap→zc8) (fun a h=>some (.normal,a,h)) (fun o _ ih a h=>aNext ih a (stepR P both ops o a h)) l
def noDefer(ops:Array Oper):Bool:=ops.toList.all fun o=>match o.op with
 | .defer _=>false
 |_=>true
def regionR(P:Program)(both:z2dd)(N:Nat)(ops:Array Oper)(a:AAct)(h:AHeap)(d:Bool):zc8:=match z2b0 N ops.toList&&noDefer ops with
 |true=>match d with
  |true=>z475 P (both false) ops a h
  |false=>opsR P both ops ops.toList a h
 |false=>none
def enterR(rb:Option Nat)(N:Nat)(ps:Array Tmp)(x y:Code)(a:AAct)(h:AHeap):Option (Nat×AAct×AHeap):=match rb with
 |none=>some (h.next+1,⟨a.tmps,(0,[],[.mrk h.next])::a.defers⟩,(h.new (.obj .dfr)).new (.obj (.loop ⟨.ready,.none,a.tmps,N,ps,x,y,h.next⟩)))
 |some b=>match h.get b with
  |some (.obj (.loop r))=>some (h.next,a,h.new (.obj (.loop ⟨.ready,.none,a.tmps,N,ps,x,y,r.dfr⟩)))
  |_=>none
def endR(l:Nat)(a:AAct):Option (ARes×AHeap)→zc8
 |some (.ret _,h)=>match h.get l with
  |some (.obj (.loop r))=>match r.st with
   | .busy=>none
   |_=>match r.pend with
    | .none=>some (.normal,a,h.put l (.obj (.loop {r with st:=.exhausted})))
    | .ret=>some (.ret,a,h.put l (.obj (.loop {r with st:=.exhausted})))
    | .exit id=>some (.exit id,a,h.put l (.obj (.loop {r with st:=.exhausted})))
  |_=>none
 |_=>none
def rangeR(P:Program)(both:z2dd)(rb:Option Nat)(N:Nat)(f:Option AV)(ps:Array Tmp)(x y:Code)(a:AAct)(h:AHeap):zc8:=match f with
 |some (.fn g first cap)=>match z191 P g with
  |true=>match enterR rb N ps x y a h with
   |some (l,a1,h1)=>endR l a1 (both false g (first++[.yld l]++cap) h1)
   |none=>none
  |false=>none
 |_=>none
def codeR(P:Program)(both:z2dd)(lf N:Nat)(rb:Option Nat)(c:Code):AAct→AHeap→zc8:=
 @Code.rec (fun _ => AAct → AHeap → zc8)
  (fun a h=>some (.normal,a,h))
  (fun _ ops d a h=>regionR P both N ops a h d)
  (fun _ _ ix iy a h=>aThen (ix a h) iy)
  (fun c _ _ ix iy a h=>aCond (a.eval c) (ix a h) (iy a h))
  (fun id _ ic a h=>aBlock id (ic a h))
  (fun _ ic a h=>aLoop ic lf a h)
  (fun f ps x y _ _ a h=>rangeR P both rb N (a.eval f) ps x y a h)
  (fun id a h=>some (.exit id,a,h))
  (fun _ _ _ _=>none)
  (fun _ _ _=>none)
  (fun _ _ _=>none)
  (fun a h=>some (.ret,a,h))
  (fun _ _ _=>none) c
end
noncomputable section
open Go.RowKit
end
noncomputable section
open Go.RowKit
end
noncomputable section
open Go.RowKit
abbrev Tabs:=List (Nat×List AV)
def Laid(GL:Tabs)(W:World):Prop:=∀g l,(g,l)∈GL→g<W.heap.size∧∀i x,l[i]? =some x→∃y,W.cell? ⟨g,i,none⟩=some y∧Rel [] x y∧y.oneCell'=true
theorem laid_nil(W:World):Laid [] W:=fun _ _ h=>by cases h
theorem Laid.below{GL:Tabs}{W W':World}(h:Laid GL W)(hb:Below W.heap.size W W'):Laid GL W':=fun g l hg=>by
 obtain⟨h1,h2⟩:=h g l hg;refine⟨Nat.lt_of_lt_of_le h1 hb.size,fun i x hx=>?_⟩;obtain⟨y,a,b⟩:=h2 i x hx;exact⟨y,(hb.cell (p:=⟨g,i,none⟩) h1).trans a,b⟩
def z24a:Tabs→T AObj
 |[]=>.e
 |(g,l)::r=>(z24a r).set g (.glob (T.put .e 0 l))
def z268(GL:Tabs)(X:List Nat)(G:Nat):AHeap:=⟨G,X,z24a GL⟩
def z36f(G:Nat):Tabs→Bool
 |[]=>true
 |(g,_)::r=>Nat.blt g G&&z36f G r
theorem z1f1:∀{GL:Tabs} {b:Nat} {o:AObj},(z24a GL).get b=some o→∃l,(b,l)∈GL∧o=.glob (T.put .e 0 l)
 |[],b,o,h=>by
  have h:(T.e:T AObj).get b=some o:=h;rw[y55] at h;cases h
 |(g,l)::r,b,o,h=>by
  unfold z24a at h
  by_cases e:g=b
  ·subst e
   rw[y1c] at h;simp only[Option.some.injEq] at h;exact⟨l,List.mem_cons_self ..,h.symm⟩
  ·rw [y1d _ _ e] at h
   obtain⟨l',h1,h2⟩:=z1f1 h;exact⟨l',List.mem_cons_of_mem _ h1,h2⟩
theorem z249{G:Nat}:∀{GL:Tabs},z36f G GL=true→∀g l,(g,l)∈GL→g<G
 |[],_,_,_,h=>by cases h
 |(g',l')::r,hk,g,l,h=>by
  unfold z36f at hk;rw[Bool.and_eq_true] at hk
  rcases List.mem_cons.1 h with h|h
  ·cases h;exact Nat.le_of_ble_eq_true hk.1
  ·exact z249 hk.2 g l h
def mapG(G:Nat):Map:=(List.range G).map fun b=>some (b,0,0)
theorem z3eb{GL:Tabs}{X:List Nat}{G:Nat}{W:World}(hL:Laid GL W)(hG:z36f G GL=true):Fits W (mapG G) (z268 GL X G) W:=by
 have get:∀{b:Nat} {o:AObj},(z268 GL X G).get b=some o→∃l,(b,l)∈GL∧o=.glob (T.put .e 0 l):=fun h=>z1f1 h
 have no:∀{b:Nat} {o:AObj},(z268 GL X G).get b=some o→o.alive=true→False:=fun h ha=>by
  obtain⟨l,_,rfl⟩:=get h;cases ha
 exact {
  below := Below.refl _ _
  floor := Nat.zero_le _
  pin := fun k o hk => by cases hk
  len := by simp [mapG, z268]
  fresh := fun b hb => by
   cases e : (z268 GL X G).get b with
   | none => rfl
   | some o =>
    obtain ⟨l, h1, _⟩ := get e
    have := z249 hG b l h1;have hb : G ≤ b := hb;omega
  wf := fun b n t e h => (no h rfl).elim
  row := fun b n t e g s z h => (no h rfl).elim
  map := fun b es g s z h => (no h rfl).elim
  obj := fun b q g s z h => (no h rfl).elim
  exact := fun b n t e g s z h => (no h rfl).elim
  ro := fun b t g s z h => by
   obtain ⟨l, _, e⟩ := get h
   cases e
  glob := fun b t h => by
   obtain ⟨l, h1, e⟩ := get h
   cases e
   have hb := z249 hG b l h1
   obtain ⟨h2, h3⟩ := hL b l h1
   refine ⟨0, by simp [mapG, List.getElem?_range hb], h2, fun i x hx => ?_⟩;rw [zca] at hx
   obtain ⟨y, a, c, d⟩ := h3 i x hx
   exact ⟨y, by rw [Nat.zero_add]; exact a, c.mono (fun b p h => by simp at h), d⟩
  sep := fun b b' o o' g s z s' z' _ h _ ha => (no h ha).elim }
end
end Go.Proofs.YtcahhjjnihipdaaDoor.Abs
