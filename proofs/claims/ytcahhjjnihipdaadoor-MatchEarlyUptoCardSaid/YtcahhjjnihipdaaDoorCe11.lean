/- What matchEarlyUpto_proved stands on, part 11 of 11. -/
import Derived.Test.YtcahhjjnihipdaaDoorCe10
import Derived.JoinedCond
namespace Go.Proofs.YtcahhjjnihipdaaDoor
open Go.ChangeShapes Go.WideShapes Go.ChangeAt Go.RowKit
section
variable {H:Type}{enc:TypeId×Value→H}
set_option maxRecDepth 100000 in
theorem z397{f:FuncId}{fn:Func}{s:ChangeSpec}(L:List (String×DataW Unit))(hfn:Tryd.prog.funcs[f]? =some fn)(noInit:Tryd.prog.inits.idxOf? f=none)(hvars:s.vars=[])(hres:fn.resultTypes= #[4])(hread:(fn.params.toList.all fun t=>Tryd.prog.readableRec t&&decide (t<Tryd.prog.types.size))=true)(hspec:∀(args:List Value) (ds:List (DataW H)) (W:World) (p:List MemPlace),DataW.TrodAll enc Tryd.prog W 0 (fun _=>true) true fn.params.toList args ds p→(s.fn H (ds++[])).results=[.lit (.bool true)]∧(s.fn H (ds++[])).args=ds∧(s.fn H (ds++[])).vars=[])(hplain:s.plain.varTypes Tryd.prog=[])(os:Os)(started:os.Started)(F:Stop.Interp)(witness : ∃ (w : World) (tape : Tape) (i : Input), w.os = os ∧ (w.forCall tape i).Shaped Tryd.prog ∧ i.vars = [] ∧ Input.okWide Tryd.prog (w.forCall tape i) .any w.heap.size f i ∧
   (((Rows.OpenSpec.upto s).pre enc Tryd.prog fn [] false (w.forCall tape i).memory i.args∧laidMet Tryd.prog L (w.forCall tape i).memory)∧sizedMet enc Tryd.prog fn (Rows.OpenSpec.upto s) false (w.forCall tape i).memory i.args)∧({}:Assume).holds Tryd.prog (lone (Frame.enter Tryd.prog f i.args .normal) [] (w.forCall tape i)))(walk : ∀ (W : World) (args : Array Value) (ds : List (DataW H)) (p : List MemPlace), laidMet Tryd.prog L W → (∀ (j : Nat) t v, fn.params[j]? = some t → args[j]? = some v → ∃ base, Value.okWide Tryd.prog W .any base t v) →
   DataW.TrodAll enc Tryd.prog W 0 (fun _=>true) true fn.params.toList args.toList ds p→(∀x∈p,x.block<W.heap.size)→
   (DataW.weightsEach Tryd.prog fn.params.toList ds).all (·≤reachBytes)=true→Rows.uptoBulkAll ds≤1048576→
   Calls Tryd.prog f args W fun e W'=>e=.returned (.bool true)∧Below W.heap.size W W'):
  ReturnsInHanded {} Tryd.checked os f .any (fun w args=>((Rows.OpenSpec.upto s).pre enc Tryd.prog fn [] false w args∧laidMet Tryd.prog L w)∧sizedMet enc Tryd.prog fn (Rows.OpenSpec.upto s) false w args) (((Rows.OpenSpec.upto s).at F).post enc Tryd.prog fn false true false false):=by
 refine returnsInHanded_of_calls (C:=Tryd.checked) Tryd.own started noInit witness ?_;intro w tape i _ _ _ hok hpre _;obtain⟨_,_,_,fn',hfn',_,_,_,_,hval⟩:=hok;have e:fn'=fn:=Option.some.inj (hfn'.symm.trans hfn);subst e;obtain⟨⟨hp,hL0⟩,hz⟩:=hpre;obtain⟨ds,gs,before,hw,_,hkk⟩:=(OpenSpec.pre_some (s:=Rows.OpenSpec.upto s) (k:=Rows.uptoSmall) rfl [] false _ _).1 hp;have hL:laidMet Tryd.prog L (w.forCall tape i):=laidMet.of_heap (by rfl) hL0;have hsz0:(DataW.weightsEach Tryd.prog (fn'.params.toList++s.plain.varTypes Tryd.prog) (ds++gs)).all (·≤reachBytes)=true:=hz.weights hw;have hW:DataW.Whole enc Tryd.prog fn'.params.toList s.vars false (w.forCall tape i) i.args.toList ds gs before:=DataW.Whole.of_heap (by rfl) hw;have hW':=hW;obtain⟨p,q,hA0,hV,rfl,_,_⟩:=hW;have hA:DataW.TrodAll enc Tryd.prog (w.forCall tape i) 0 (fun _=>true) true fn'.params.toList i.args.toList ds p:=hA0;rw[hvars] at hV hW';obtain⟨rfl,rfl⟩:=trodVars_none hV;simp only[List.append_nil] at hW' hkk;have hB:Rows.uptoBulkAll ds≤1048576:=of_decide_eq_true hkk;have hlt:∀x∈p,x.block<(w.forCall tape i).heap.size:=fun x hx=>by simpa using hW'.lt x hx
 have hsz:(DataW.weightsEach Tryd.prog fn'.params.toList ds).all (·≤reachBytes)=true:=by
  have h:=hsz0;rw[hplain] at h;simp only[List.append_nil] at h;exact h
 obtain⟨er,ea,ev⟩:=hspec i.args.toList ds _ p hA;refine(walk (w.forCall tape i) i.args ds p hL (fun j t v h1 h2=>⟨w.heap.size,hval j t v h1 h2⟩) hA hlt hsz hB).mono fun e W' ⟨he,hb⟩=>?_;subst he;refine ChangeSpec.post_blind (s:=s) ⟨ds,[],p,[],p,[],?_,?_,?_,?_,hb.frame _,fun h=>by cases h⟩
 ·rw[hvars];exact hW'
 ·rw[er,hres];exact trodAll_mk1 (shut_bool Tryd.underlying4 _)
 ·rw[ea];exact stays y59 hb _ _ _ _ hA (z3d4 hread) hlt
 ·rw[ev,hvars];trivial
theorem z331{os:Os}{f:FuncId}{fn:Func}{s:ChangeSpec}{L:List (String×DataW Unit)}(w0:World)(args:Array Value)(fuel:Nat)(hos:w0.os=os)(hv:(w0.forCall (fun _ _=>0) ⟨#[],args,[]⟩).variablesB Tryd.prog=true)(hr : ((w0.forCall (fun _ _ => 0) ⟨#[], args, []⟩).heap.toList.drop Tryd.prog.globals.size).take ((begin Tryd.prog (fun _ _ => 0) default).world.heap.size - Tryd.prog.globals.size) =
   (begin Tryd.prog (fun _ _=>0) default).world.heap.toList.drop Tryd.prog.globals.size)(hok:Input.okWideB Tryd.prog (w0.forCall (fun _ _=>0) ⟨#[],args,[]⟩) f ⟨#[],args,[]⟩=true){x:List (DataW H)×List (DataW H)×List MemPlace}(hx:DataW.whole enc Tryd.prog (w0.forCall (fun _ _=>0) ⟨#[],args,[]⟩).memory fn.params.toList s.vars false args.toList fuel=some x)(hkk:Rows.uptoSmall H (x.1++x.2.1)=true)(hsz:s.sizedB enc Tryd.prog fn false (w0.forCall (fun _ _=>0) ⟨#[],args,[]⟩).memory args fuel=true)(hl:laidMet Tryd.prog L (w0.forCall (fun _ _=>0) ⟨#[],args,[]⟩).memory):
  ∃(w:World) (tape:Tape) (i:Input),w.os=os∧(w.forCall tape i).Shaped Tryd.prog∧i.vars=[]∧Input.okWide Tryd.prog (w.forCall tape i) .any w.heap.size f i∧
   (((Rows.OpenSpec.upto s).pre enc Tryd.prog fn [] false (w.forCall tape i).memory i.args∧laidMet Tryd.prog L (w.forCall tape i).memory)∧sizedMet enc Tryd.prog fn (Rows.OpenSpec.upto s) false (w.forCall tape i).memory i.args)∧({}:Assume).holds Tryd.prog (lone (Frame.enter Tryd.prog f i.args .normal) [] (w.forCall tape i)):=
 ⟨w0, fun _ _ => 0, ⟨#[], args, []⟩, hos, World.shaped_of_B hv hr, (Input.okWide_of_okWideB (base := 0) hok).1, (Input.okWide_of_okWideB hok).2,
  ⟨⟨(OpenSpec.pre_some (s:=Rows.OpenSpec.upto s) (k:=Rows.uptoSmall) rfl [] false _ _).2 ⟨x.1,x.2.1,x.2.2,DataW.Whole_of_whole hx,rfl,hkk⟩,hl⟩,sizedMet_of_sizedB hsz⟩,by
  simp only[Assume.holds];exact⟨by simp,by simp,fun _=>Modest.zero,by simp,by simp⟩⟩
variable {W:World}{m:Abs.Map}
theorem z48e{xs:List Abs.AV}{v:Value}{vs:List Value}(h:Abs.RelL m xs (v::vs)):∃x xs',xs=x::xs'∧Abs.Rel m x v∧Abs.RelL m xs' vs:=by
 cases h with|cons a b=>exact⟨_,_,rfl,a,b⟩
set_option maxRecDepth 100000 in
theorem z43c:∀{ts:List TypeId} {vs:List Value} {ds:List (DataW H)} {p:List MemPlace} {xs:List Abs.AV},DataW.TrodAll enc Tryd.prog W 0 (fun _=>true) true ts vs ds p→Abs.RelL m xs vs→
  ∀{i:Nat} {t:TypeId} {s:Abs.Bytes},ts[i]? =some t→Tryd.prog.underlying t=some .string→xs[i]? =some (Abs.strA s)→s.length≤Rows.uptoBulkAll ds
 |[],_,_,_,_,_,_,_,_,_,h,_,_=>by cases h
 |t0::ts,vs,ds,p,xs,hA,hr,i,t,s,hi,hu,hx=>by
  obtain⟨v0,vs0,d0,ds0,p0,q0,rfl,rfl,_,⟨_,tr⟩,r0⟩:=trodAll_cons hA;obtain⟨x0,xs0,rfl,a0,b0⟩:=z48e hr;have hc:Rows.uptoBulkAll (d0::ds0)=Rows.uptoBulk d0+Rows.uptoBulkAll ds0:=by simp only[Rows.uptoBulkAll]
  cases i with
  |succ i=>
   have:=z43c r0 b0 (i:=i) hi hu hx;omega
  |zero=>
   cases hi;have hx:x0=Abs.strA s:=Option.some.inj hx;rw[hx] at a0;unfold Abs.strA at a0
   cases a0 with|str b e1 e2=>
   obtain⟨s',hs',hd,_⟩:=DataW.trod_string hu tr;simp only[Prod.mk.injEq] at hd;obtain⟨rfl,_⟩:=hd
   have hb:b=s':=by
    have:[Value.string b]=[Value.string s']:=hs'
    injection this with h1
    injection h1
   have:s=s'.data.toList:=by
    rw[←hb];exact(Abs.enc_inj _ _ e1 e2).symm
   rw[hc,this];have:Rows.uptoBulk (DataW.lit (H:=H) (.string s'.data.toList))=s'.data.toList.length+1:=by simp only[Rows.uptoBulk]
   omega
end
end Go.Proofs.YtcahhjjnihipdaaDoor
