/- A piece of the run of NfaNames: 32664 operations. -/
import Derived.Test.YtakhljnkmbpmpaaDoorNfaNamesS2
namespace Go.Proofs.YtakhljnkmbpmpaaDoor
open Go.RowKit
set_option maxRecDepth 100000 in
theorem nfaNamesP19 : Abs.pieceM Tryd.prog nfaNamesB 100000 nfaNamesS19 [.atom, .pass, .atom, .pass, .opn, .atom, .opn, .atom, .opn, .opn, .opn, .atom, .atom, .pass, .atom, .pass, .opn, .atom, .opn, .atom, .opn, .opn, .opn, .atom, .atom, .pass, .atom, .pass, .opn, .atom, .opn, .atom, .opn, .opn, .opn, .atom, .atom, .pass, .atom, .pass, .opn, .atom, .opn, .atom, .opn, .opn, .opn, .atom] nfaNamesS20 = true := by kernel_rfl
end Go.Proofs.YtakhljnkmbpmpaaDoor
