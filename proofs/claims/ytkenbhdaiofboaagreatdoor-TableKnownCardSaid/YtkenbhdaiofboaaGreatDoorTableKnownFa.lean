/- Closed facts of TableKnown's row, apart because the program is big. -/
import Derived.Test.YtkenbhdaiofboaaGreatDoorFrame
import Derived.Test.YtkenbhdaiofboaaGreatDoorRows
namespace Go.Proofs.YtkenbhdaiofboaaGreatDoor
open Go.ChangeShapes Go.WideShapes Go.ChangeAt Go.RowKit
set_option maxRecDepth 100000 in
theorem tableKnown_k1 : (laidOutB Tryz.pinned.checked.prog) = true := by kernel_rfl
set_option maxRecDepth 100000 in
theorem tableKnown_k2 : (mapsRowed Tryz.pinned.checked.prog) = true := by kernel_rfl
set_option maxRecDepth 100000 in
theorem tableKnown_k9 : ((Rows.tableKnownRow.inPlace == Tryz.pinned.checked.prog.inPlace 3)) = true := by kernel_rfl
end Go.Proofs.YtkenbhdaiofboaaGreatDoor
