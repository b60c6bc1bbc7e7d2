/- A piece of the run of NfaNames: 33175 operations. -/
import Derived.Test.YtakhljnkmbpmpaaDoorNfaNamesS
namespace Go.Proofs.YtakhljnkmbpmpaaDoor
open Go.RowKit
set_option maxRecDepth 100000 in
theorem nfaNamesP10 : Abs.pieceM Tryd.prog nfaNamesB 100000 nfaNamesS10 [.rounds 8, .pass, .atom, .pop, .pass, .atom, .pop, .ops 1, .pass, .atom, .pop, .ops 2, .pass, .atom, .pop, .ops 3, .pass, .pass, .pass, .atom, .atom, .pop, .ops 2, .pass, .atom, .pop, .ops 2, .pass, .atom, .pop, .ops 1, .pass, .pop, .pass, .atom, .pop, .ops 1, .pass, .atom, .pop, .ops 7, .pass, .opn, .atom, .opn, .atom, .opn, .opn, .ops 1, .call, .opn, .atom, .opn, .opn, .atom, .opn, .opn, .atom, .opn, .opn, .atom, .opn, .opn, .atom, .opn, .opn, .atom, .opn, .opn, .opn, .atom, .opn, .atom, .opn, .opn, .opn, .atom, .atom, .pass, .atom, .pass, .opn, .atom, .opn, .atom, .opn, .opn, .opn, .atom, .atom, .pass, .atom, .pass, .opn, .atom, .opn, .atom, .opn, .opn, .opn, .atom, .atom, .pass, .atom, .pass, .opn, .atom, .opn, .atom, .opn, .opn, .opn, .atom, .atom, .pass, .atom, .pass, .opn, .atom, .opn, .atom, .opn, .opn, .opn, .atom] nfaNamesS11 = true := by kernel_rfl
end Go.Proofs.YtakhljnkmbpmpaaDoor
