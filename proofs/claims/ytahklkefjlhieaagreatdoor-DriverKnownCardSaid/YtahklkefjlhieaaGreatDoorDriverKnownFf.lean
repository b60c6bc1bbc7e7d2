/- Closed facts of DriverKnown's card, apart because the program is big. -/
import Derived.Test.YtahklkefjlhieaaGreatDoorFrameL
import Derived.Test.YtahklkefjlhieaaGreatDoorCards
namespace Go.Proofs.YtahklkefjlhieaaGreatDoor
open Go.ChangeShapes Go.WideShapes Go.ChangeAt Go.RowKit
open Go.ChangeMaps (open_string shut_string)
set_option maxRecDepth 100000 in
theorem driverKnown_kl : true = Tryz.pinned.checked.prog.looks [] := by kernel_rfl
end Go.Proofs.YtahklkefjlhieaaGreatDoor
