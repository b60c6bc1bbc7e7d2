/- What matchCopies_proved stands on, part 10 of 10. -/
import Derived.Test.YtpdepoeanhibiaaDoorCc9
import Derived.Handed
import Derived.LaidLaws
import Derived.SevenTiedAt
namespace Go.Proofs.YtpdepoeanhibiaaDoor
open Go.ChangeShapes Go.WideShapes Go.ChangeAt Go.RowKit
section
variable {H:Type}{enc:TypeId×Value→H}
set_option maxRecDepth 100000 in
theorem z3e8{f:FuncId}{fn:Func}{s:ChangeSpec}(L:List (String×DataW Unit))(hfn:Tryd.prog.funcs[f]? =some fn)(noInit:Tryd.prog.inits.idxOf? f=none)(hvars:s.vars=[])(hres:fn.resultTypes= #[4])(hread:(fn.params.toList.all fun t=>Tryd.prog.readableRec t&&decide (t<Tryd.prog.types.size))=true)(hspec:∀(args:List Value) (ds:List (DataW H)) (W:World) (p:List MemPlace),DataW.TrodAll enc Tryd.prog W 0 (fun _=>true) true fn.params.toList args ds p→(s.fn H (ds++[])).results=[.lit (.bool true)]∧(s.fn H (ds++[])).args=ds∧(s.fn H (ds++[])).vars=[])(hplain:s.plain.varTypes Tryd.prog=[])(os:Os)(started:os.Started)(witness : ∃ (w : World) (tape : Tape) (i : Input), w.os = os ∧ (w.forCall tape i).Shaped Tryd.prog ∧ i.vars = [] ∧ Input.okWide Tryd.prog (w.forCall tape i) .any w.heap.size f i ∧
   ((s.pre enc Tryd.prog fn [] false (w.forCall tape i).memory i.args∧laidMet Tryd.prog L (w.forCall tape i).memory)∧sizedMet enc Tryd.prog fn (OpenSpec.ofChange s) false (w.forCall tape i).memory i.args)∧({}:Assume).holds Tryd.prog (lone (Frame.enter Tryd.prog f i.args .normal) [] (w.forCall tape i)))(walk : ∀ (W : World) (args : Array Value) (ds : List (DataW H)) (p : List MemPlace), laidMet Tryd.prog L W → (∀ (j : Nat) t v, fn.params[j]? = some t → args[j]? = some v → ∃ base, Value.okWide Tryd.prog W .any base t v) →
   DataW.TrodAll enc Tryd.prog W 0 (fun _=>true) true fn.params.toList args.toList ds p→(∀x∈p,x.block<W.heap.size)→
   (DataW.weightsEach Tryd.prog fn.params.toList ds).all (·≤reachBytes)=true→
   Calls Tryd.prog f args W fun e W'=>e=.returned (.bool true)∧Below W.heap.size W W'):
  ReturnsInHanded {} Tryd.checked os f .any (fun w args=>(s.pre enc Tryd.prog fn [] false w args∧laidMet Tryd.prog L w)∧sizedMet enc Tryd.prog fn (OpenSpec.ofChange s) false w args) (s.post enc Tryd.prog fn false true false false):=by
 refine returnsInHanded_of_change_and (C:=Tryd.checked) (X:=fun w _=>laidMet Tryd.prog L w) (fun _ _ _ hh h=>h.of_heap hh) Tryd.own started noInit hfn witness ?_;intro W base args ds gs before hval hW _ hsz0 hL _;have hW':=hW;obtain⟨p,q,hA0,hV,rfl,_,_⟩:=hW;have hA:DataW.TrodAll enc Tryd.prog W 0 (fun _=>true) true fn.params.toList args.toList ds p:=hA0;rw[hvars] at hV hW';obtain⟨rfl,rfl⟩:=trodVars_none hV;simp only[List.append_nil] at hW';have hlt:∀x∈p,x.block<W.heap.size:=fun x hx=>by simpa using hW'.lt x hx
 have hsz:(DataW.weightsEach Tryd.prog fn.params.toList ds).all (·≤reachBytes)=true:=by
  have h:=hsz0;rw[show s.plain.varTypes Tryd.checked.prog=[] from hplain] at h;simp only[List.append_nil] at h;exact h
 obtain⟨er,ea,ev⟩:=hspec args.toList ds W p hA;refine(walk W args ds p hL (fun j t v h1 h2=>⟨base,hval j t v h1 h2⟩) hA hlt hsz).mono fun e W' ⟨he,hb⟩=>?_;subst he;refine⟨_,rfl,ds,[],p,[],p,[],?_,?_,?_,?_,hb.frame _,fun h=>by cases h⟩
 ·rw[hvars];exact hW'
 ·rw[er,hres];exact trodAll_mk1 (shut_bool Tryd.underlying4 _)
 ·rw[ea];exact stays y59 hb _ _ _ _ hA (z3d8 hread) hlt
 ·rw[ev,hvars];trivial
end
theorem z3df{fn:Func}(h:(fn.params.toList.all fun t=> !Tryd.prog.wantsStandIn t)=true)(j:Nat)(t:TypeId)(ht:fn.params[j]? =some t):Tryd.prog.wantsStandIn t=false:=by
 have hm:t∈fn.params.toList:=by
  have:=Array.mem_of_getElem? ht
  simpa using this
 have:=List.all_eq_true.1 h t hm
 simpa using this
def litV:DataW Unit→Value
 | .lit (.int k n)=>.int k n
 |_=>undef
def z424:DataW Unit→Array Value
 | .agg l=>(l.map litV).toArray
 |_=> #[]
noncomputable def z3a2(os:Os)(gs:List (Nat×Array Value)):World:=
 let w0:=World.holding Tryd.prog os ⟨#[], #[],[]⟩
 { w0 with heap := gs.foldl (fun hp x => hp.modify x.1 fun
   | .cells _ t frozen => .cells x.2 t frozen
   | o => o) w0.heap }
end Go.Proofs.YtpdepoeanhibiaaDoor
