/- Closed calls with loops over functions: dear ones are looked up. -/
import Derived.Test.YtngbnbmfjpkfeaaGreatAbs39
namespace Go.Proofs.YtngbnbmfjpkfeaaGreat.Abs
noncomputable section
open Go.RowKit

def Memo.look (M : Memo) (f : FuncId) (args : List AV) : Option ARes := match M.has f with
  | true => M.find f args
  | false => none
theorem Memo.lookOK {P : Program} {M : Memo} (h : M.ok P) : LookOK P M.look := by
  intro f args r hr
  unfold Memo.look at hr
  split at hr
  · exact h f args r hr
  · cases hr
/-- a closed call, with what has been looked up -/
def runB (P : Program) (M : Memo) (L X : List Nat) (lf d : Nat) (f : FuncId) (args : List AV) : Option (ARes × AHeap) := bothA P (fun _ => none) M.look L lf d false f args ⟨0, X, .e⟩
theorem runB_says {P : Program} (hm : P.follows .mixedOrders = true) {M : Memo} (hM : M.ok P) {L X : List Nat} {lf d : Nat} {f : FuncId} {args : List AV} {r : ARes} {h' : AHeap} (hr : runB P M L X lf d f args = some (r, h')) : Says P f args ⟨0, X, .e⟩ r h' :=
  fun w0 m w args' ha F => (bothA_ok hm (noSpec_ok w0) (Memo.lookOK hM) d).call f args _ r h' hr m w args' ha F
theorem Memo.saysB {P : Program} (hm : P.follows .mixedOrders = true) {lf d : Nat} {M : Memo} (hM : M.ok P) {f : FuncId} {args : List AV} {r : ARes} {L X : List Nat} (ha : AV.scalL args = true) (hv : r.val.scal = true)
    (hr : came r (runB P M L X lf d f args) = true) (h : AHeap) : Says P f args h r h := by
  unfold came at hr
  split at hr
  · rename_i s hF e
    have := ARes.same_eq hr
    subst this
    exact Says.any (runB_says hm hM e) ha hv h
  · cases hr
/-- A CALL WITHOUT ARGUMENTS THAT THE SMALL MACHINE SAYS RETURNS TRUE RETURNS TRUE, and leaves what was there as it was. -/
theorem saysB_true {P : Program} (hm : P.follows .mixedOrders = true) {lf d : Nat} {M : Memo} (hM : M.ok P) {f : FuncId} {L X : List Nat} (h : saysTrue (runB P M L X lf d f []) = true) (W : World) : Calls P f #[] W fun e W' => e = .returned (.bool true) ∧ Below W.heap.size W W' := by
  unfold saysTrue at h
  split at h
  · rename_i b h' hr
    subst h
    refine Calls.mono (runB_says hm hM hr W [] W [] .nil (fits_start W X)) ?_
    rintro e W' ⟨m', _, F, v', rfl, hv⟩
    cases hv
    exact ⟨rfl, F.below⟩
  · cases h
end
end Go.Proofs.YtngbnbmfjpkfeaaGreat.Abs
