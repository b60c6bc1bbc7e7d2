/- Closed facts of DriverKnown's row, apart because the program is big. -/
import Derived.Test.YtahklkefjlhieaaGreatDoorFrame
import Derived.Test.YtahklkefjlhieaaGreatDoorRows
namespace Go.Proofs.YtahklkefjlhieaaGreatDoor
open Go.ChangeShapes Go.WideShapes Go.ChangeAt Go.RowKit
set_option maxRecDepth 100000 in
theorem driverKnown_k10 : ((Rows.driverKnownRow.unfollowed == Tryz.pinned.checked.prog.unfollowed 3)) = true := by kernel_rfl
set_option maxRecDepth 100000 in
theorem driverKnown_k11 : ((Rows.driverKnownRow.recurses == Tryz.pinned.checked.prog.recurses 3)) = true := by kernel_rfl
end Go.Proofs.YtahklkefjlhieaaGreatDoor
