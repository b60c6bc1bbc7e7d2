/- A piece of the run of NfaNames: 40595 operations. -/
import Derived.Test.YtakhljnkmbpmpaaDoorNfaNamesS2
namespace Go.Proofs.YtakhljnkmbpmpaaDoor
open Go.RowKit
set_option maxRecDepth 100000 in
theorem nfaNamesP26 : Abs.pieceM Tryd.prog nfaNamesB 100000 nfaNamesS26 [.rounds 46] nfaNamesS27 = true := by kernel_rfl
end Go.Proofs.YtakhljnkmbpmpaaDoor
