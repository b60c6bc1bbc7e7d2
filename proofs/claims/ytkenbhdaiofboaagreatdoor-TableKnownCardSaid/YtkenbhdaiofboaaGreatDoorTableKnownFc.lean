/- Closed facts of TableKnown's row, apart because the program is big. -/
import Derived.Test.YtkenbhdaiofboaaGreatDoorFrame
import Derived.Test.YtkenbhdaiofboaaGreatDoorRows
namespace Go.Proofs.YtkenbhdaiofboaaGreatDoor
open Go.ChangeShapes Go.WideShapes Go.ChangeAt Go.RowKit
set_option maxRecDepth 100000 in
theorem tableKnown_k12 : ((Rows.tableKnownRow.named == Tryz.pinned.checked.prog.varsNamed 3)) = true := by kernel_rfl
set_option maxRecDepth 100000 in
theorem tableKnown_k22 : ((Rows.tableKnownRow.plainKeys == Tryz.pinned.checked.prog.plainKeys)) = true := by kernel_rfl
set_option maxRecDepth 100000 in
theorem tableKnown_k24 : (Tryz.pinned.checked.prog.stopsHeard) = true := by kernel_rfl
end Go.Proofs.YtkenbhdaiofboaaGreatDoor
