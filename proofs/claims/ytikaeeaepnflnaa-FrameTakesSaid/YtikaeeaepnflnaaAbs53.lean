/- What comes in, opened beside tables that are laid. -/
import Derived.Test.YtikaeeaepnflnaaAbs52
import Derived.Test.YtikaeeaepnflnaaAbs43
namespace Go.Proofs.Ytikaeeaepnflnaa.Abs
noncomputable section
open Go.RowKit

section
variable {H : Type} {enc : TypeId × Value → H} {P : Program} {W : World}
theorem open_allG {n : Nat} (GL : Tabs) (G : Nat) (X : List Nat) (hL : Laid GL W) (hG : tabsOk G GL = true) {ts : List TypeId} {vs : List Value} {ds : List (DataW H)} {p : List MemPlace} (ht : DataW.TrodAll enc P W 0 (fun _ => true) true ts vs ds p) (hpl : ∀ x ∈ p, x.block < W.heap.size) (hwt : (DataW.weightsEach P ts ds).all (· ≤ reachBytes) = true)
    (hall : ts.all (plainT P n) = true) (hval : ∀ (i : Nat) t v, ts[i]? = some t → vs[i]? = some v → ∃ base, Value.okWide P W .any base t v) :
    ∃ (m : Map) (h : AHeap) (as : List AV), Fits W m h W ∧ h.ex = X ∧ Keeps (startG GL X G) h ∧ RelL m as vs ∧ ArgsP P h.next h n ts as := by
  obtain ⟨m, h, as, _, k, F, _, a, b⟩ := open_each (n := n) ts vs ds p ht hpl (fun k hk => by simpa using List.all_eq_true.1 hwt k hk) hall hval (mapG G) (startG GL X G) (fits_startG hL hG) (fun b o hb => by
    obtain ⟨l, _, rfl⟩ := tabTree_get hb
    rfl)
  exact ⟨m, h, as, F, k.2.1, k, a, b⟩
end
end
end Go.Proofs.Ytikaeeaepnflnaa.Abs
