/- Closed facts of DriverKnown's card, apart because the program is big. -/
import Derived.Test.YtahklkefjlhieaaGreatDoorFrameL
import Derived.Test.YtahklkefjlhieaaGreatDoorCards
namespace Go.Proofs.YtahklkefjlhieaaGreatDoor
open Go.ChangeShapes Go.WideShapes Go.ChangeAt Go.RowKit
open Go.ChangeMaps (open_string shut_string)
set_option maxRecDepth 100000 in
theorem driverKnown_kw : Rows.driverKnownRow.wfByText (OpenSpec.ofChange Rows.driverKnownSpec) = true := by kernel_rfl
set_option maxRecDepth 100000 in
theorem driverKnown_km : Tryz.pinned.checked.prog.mainIs = some (true, "49676f279f1653cf02f870cf26a2110ad66ffda4cf278fda1fd82d4e83c0529f".toList) := by kernel_rfl
end Go.Proofs.YtahklkefjlhieaaGreatDoor
