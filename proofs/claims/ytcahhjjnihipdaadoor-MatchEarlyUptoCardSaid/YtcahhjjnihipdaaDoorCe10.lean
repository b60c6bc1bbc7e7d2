/- What matchEarlyUpto_proved stands on, part 10 of 11. -/
import Derived.Test.YtcahhjjnihipdaaDoorCe9
import Derived.Handed
import Derived.LaidLaws
import Derived.SevenTiedAt
namespace Go.Proofs.YtcahhjjnihipdaaDoor
open Go.ChangeShapes Go.WideShapes Go.ChangeAt Go.RowKit
theorem z3db{fn:Func}(h:(fn.params.toList.all fun t=> !Tryd.prog.wantsStandIn t)=true)(j:Nat)(t:TypeId)(ht:fn.params[j]? =some t):Tryd.prog.wantsStandIn t=false:=by
 have hm:t∈fn.params.toList:=by
  have:=Array.mem_of_getElem? ht
  simpa using this
 have:=List.all_eq_true.1 h t hm
 simpa using this
def litV:DataW Unit→Value
 | .lit (.int k n)=>.int k n
 |_=>undef
def z423:DataW Unit→Array Value
 | .agg l=>(l.map litV).toArray
 |_=> #[]
noncomputable def z3a1(os:Os)(gs:List (Nat×Array Value)):World:=
 let w0:=World.holding Tryd.prog os ⟨#[], #[],[]⟩
 { w0 with heap := gs.foldl (fun hp x => hp.modify x.1 fun
   | .cells _ t frozen => .cells x.2 t frozen
   | o => o) w0.heap }
end Go.Proofs.YtcahhjjnihipdaaDoor
