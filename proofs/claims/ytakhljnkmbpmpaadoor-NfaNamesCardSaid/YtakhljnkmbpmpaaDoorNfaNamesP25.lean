/- A piece of the run of NfaNames: 40267 operations. -/
import Derived.Test.YtakhljnkmbpmpaaDoorNfaNamesS2
namespace Go.Proofs.YtakhljnkmbpmpaaDoor
open Go.RowKit
set_option maxRecDepth 100000 in
theorem nfaNamesP25 : Abs.pieceM Tryd.prog nfaNamesB 100000 nfaNamesS25 [.atom, .pass, .atom, .pass, .opn, .atom, .opn, .atom, .opn, .opn, .opn, .atom, .atom, .pass, .atom, .pass, .opn, .atom, .opn, .atom, .opn, .opn, .opn, .atom, .atom, .pass, .atom, .pass, .opn, .atom, .opn, .atom, .opn, .opn, .opn, .atom, .atom, .pass, .atom, .pass, .atom, .atom, .pop, .ops 2, .pass, .opn, .atom, .opn, .opn, .ops 2, .call, .opn, .atom, .opn, .atom, .opn, .atom, .opn, .opn, .atom, .opn, .opn, .atom, .rounds 6] nfaNamesS26 = true := by kernel_rfl
end Go.Proofs.YtakhljnkmbpmpaaDoor
