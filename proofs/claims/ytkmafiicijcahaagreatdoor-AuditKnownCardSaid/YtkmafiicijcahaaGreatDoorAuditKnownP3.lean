/- A piece of the run of AuditKnown: 27758 operations. -/
import Derived.Test.YtkmafiicijcahaaGreatDoorAuditKnownS
namespace Go.Proofs.YtkmafiicijcahaaGreatDoor
open Go.RowKit
set_option maxRecDepth 100000 in
theorem auditKnownP3 : Abs.endM Tryz.prog auditKnownB 100000 auditKnownS3 [.atom, .atom] = true := by kernel_rfl
end Go.Proofs.YtkmafiicijcahaaGreatDoor
