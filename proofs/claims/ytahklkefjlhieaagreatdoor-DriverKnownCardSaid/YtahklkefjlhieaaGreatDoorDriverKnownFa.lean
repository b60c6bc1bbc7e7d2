/- Closed facts of DriverKnown's row, apart because the program is big. -/
import Derived.Test.YtahklkefjlhieaaGreatDoorFrame
import Derived.Test.YtahklkefjlhieaaGreatDoorRows
namespace Go.Proofs.YtahklkefjlhieaaGreatDoor
open Go.ChangeShapes Go.WideShapes Go.ChangeAt Go.RowKit
set_option maxRecDepth 100000 in
theorem driverKnown_k1 : (laidOutB Tryz.pinned.checked.prog) = true := by kernel_rfl
set_option maxRecDepth 100000 in
theorem driverKnown_k2 : (mapsRowed Tryz.pinned.checked.prog) = true := by kernel_rfl
set_option maxRecDepth 100000 in
theorem driverKnown_k9 : ((Rows.driverKnownRow.inPlace == Tryz.pinned.checked.prog.inPlace 3)) = true := by kernel_rfl
end Go.Proofs.YtahklkefjlhieaaGreatDoor
