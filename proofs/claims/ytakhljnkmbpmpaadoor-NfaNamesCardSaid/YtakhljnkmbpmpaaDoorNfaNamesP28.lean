/- A piece of the run of NfaNames: 22174 operations. -/
import Derived.Test.YtakhljnkmbpmpaaDoorNfaNamesS2
namespace Go.Proofs.YtakhljnkmbpmpaaDoor
open Go.RowKit
set_option maxRecDepth 100000 in
theorem nfaNamesP28 : Abs.endM Tryd.prog nfaNamesB 100000 nfaNamesS28 [.rounds 44, .pass, .atom, .atom, .pop, .ops 4, .call, .opn, .atom, .opn, .atom, .opn, .atom, .opn, .opn, .atom, .opn, .opn, .atom, .rounds 62, .pass, .atom, .atom, .pop, .ops 6, .call, .opn, .atom, .opn, .atom, .opn, .atom, .opn, .opn, .atom, .opn, .opn, .atom, .rounds 63, .pass, .atom, .pop, .ops 21, .pass, .atom] = true := by kernel_rfl
end Go.Proofs.YtakhljnkmbpmpaaDoor
