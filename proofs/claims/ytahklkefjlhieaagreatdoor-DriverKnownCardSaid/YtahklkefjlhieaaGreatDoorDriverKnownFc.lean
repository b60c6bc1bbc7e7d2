/- Closed facts of DriverKnown's row, apart because the program is big. -/
import Derived.Test.YtahklkefjlhieaaGreatDoorFrame
import Derived.Test.YtahklkefjlhieaaGreatDoorRows
namespace Go.Proofs.YtahklkefjlhieaaGreatDoor
open Go.ChangeShapes Go.WideShapes Go.ChangeAt Go.RowKit
set_option maxRecDepth 100000 in
theorem driverKnown_k12 : ((Rows.driverKnownRow.named == Tryz.pinned.checked.prog.varsNamed 3)) = true := by kernel_rfl
set_option maxRecDepth 100000 in
theorem driverKnown_k22 : ((Rows.driverKnownRow.plainKeys == Tryz.pinned.checked.prog.plainKeys)) = true := by kernel_rfl
set_option maxRecDepth 100000 in
theorem driverKnown_k24 : (Tryz.pinned.checked.prog.stopsHeard) = true := by kernel_rfl
end Go.Proofs.YtahklkefjlhieaaGreatDoor
