/- slices.Delete of a net's letters, as a function that is known. -/
import Derived.Test.YthdkfofkghpmcaaDl
import Derived.Test.YthdkfofkghpmcaaAbs36
namespace Go.Proofs.Ythdkfofkghpmcaa
open Go.RowKit Abs
noncomputable def delF : FnT := fun args h => Abs.delS Try.prog 32 args h
theorem delF_holds : Holds Try.prog 38 delF := by
  intro args h r h' e w0 m w args' hr F
  refine Abs.delSpec_ok delOK w0 38 _ rfl (fun _ _ _ => none) (fun _ _ _ _ _ h => by cases h) 38 args h r h' ?_ m w args' hr F
  exact (if_pos rfl).trans e
end Go.Proofs.Ythdkfofkghpmcaa
