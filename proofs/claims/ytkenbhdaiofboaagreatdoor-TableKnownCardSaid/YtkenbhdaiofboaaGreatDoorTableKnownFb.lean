/- Closed facts of TableKnown's row, apart because the program is big. -/
import Derived.Test.YtkenbhdaiofboaaGreatDoorFrame
import Derived.Test.YtkenbhdaiofboaaGreatDoorRows
namespace Go.Proofs.YtkenbhdaiofboaaGreatDoor
open Go.ChangeShapes Go.WideShapes Go.ChangeAt Go.RowKit
set_option maxRecDepth 100000 in
theorem tableKnown_k10 : ((Rows.tableKnownRow.unfollowed == Tryz.pinned.checked.prog.unfollowed 3)) = true := by kernel_rfl
set_option maxRecDepth 100000 in
theorem tableKnown_k11 : ((Rows.tableKnownRow.recurses == Tryz.pinned.checked.prog.recurses 3)) = true := by kernel_rfl
end Go.Proofs.YtkenbhdaiofboaaGreatDoor
