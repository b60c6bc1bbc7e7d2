/-
  DERIVED. GIVEN WITH THE SEED: THE CARDS: each row of YtkenbhdaiofboaaGreatDoorRows.lean that lists a variable, with what it lists TIED to the program's text (the seventh form; the later family's looks); each row that meets fmt, with fmt's text TOLD by the authors' own Lean function (tested against real Go, not proved from fmt's source: count such statements apart). THE CARD IS WHAT COUNTS. Prove the row's statement (the work); the ties are given (YtkenbhdaiofboaaGreatDoorTie.lean); close each card by the builder's one call (the guide's Derived/Test/ToyasCard.lean, 'card_holds'). Laid BY PROGRAM, IN A SANDBOX (cutbox-door.mjs). By AI agents, Wed Nov 11 2026. No macro, syntax, notation, axiom, sorry.
-/
import Derived.Test.YtkenbhdaiofboaaGreatDoorRows
import GoSem.ClaimSeven
namespace Go.Proofs.YtkenbhdaiofboaaGreatDoor
namespace Rows

/-- THE TIED CARD OF 'dragomanlaw24.TableKnown'. -/
def tableKnownCard : Claim7 := { stood := { row := tableKnownRow, standIns := [], harness := (true, "0c42a873fa3c0e11c545c91d67cbd8c6c8876dc2ab2ca4bc620aef1b1820dc3c"), looks := true }, kinds := [], alts := [], laidByText := true, laidKinds := [.data, .data, .data], laidTests := true, laidLooks := .later }
def TableKnownCardSaid : Prop := Claim7.holds Tryz.pinned (.plain (OpenSpec.ofChange tableKnownSpec)) tableKnownCard

/-- THE TIED CARD OF 'dragomanlaw24.TableCommands'. -/
def tableCommandsCard : Claim7 := { stood := { row := tableCommandsRow, standIns := [], harness := (true, "0c42a873fa3c0e11c545c91d67cbd8c6c8876dc2ab2ca4bc620aef1b1820dc3c"), looks := true }, kinds := [], alts := [], laidByText := true, laidKinds := [.data, .data, .data], laidTests := true, laidLooks := .later }
def TableCommandsCardSaid : Prop := Claim7.holds Tryz.pinned (.plain (OpenSpec.ofChange tableCommandsSpec)) tableCommandsCard

/-- THE TIED CARD OF 'dragomanlaw24.TablePlays'. -/
def tablePlaysCard : Claim7 := { stood := { row := tablePlaysRow, standIns := [], harness := (true, "0c42a873fa3c0e11c545c91d67cbd8c6c8876dc2ab2ca4bc620aef1b1820dc3c"), looks := true }, kinds := [], alts := [], laidByText := true, laidKinds := [.data, .data, .data], laidTests := true, laidLooks := .later }
def TablePlaysCardSaid : Prop := Claim7.holds Tryz.pinned (.plain (OpenSpec.ofChange tablePlaysSpec)) tablePlaysCard

/-- THE TIED CARD OF 'dragomanlaw24.TableWatches'. -/
def tableWatchesCard : Claim7 := { stood := { row := tableWatchesRow, standIns := [], harness := (true, "0c42a873fa3c0e11c545c91d67cbd8c6c8876dc2ab2ca4bc620aef1b1820dc3c"), looks := true }, kinds := [], alts := [], laidByText := true, laidKinds := [.data, .data, .data], laidTests := true, laidLooks := .later }
def TableWatchesCardSaid : Prop := Claim7.holds Tryz.pinned (.plain (OpenSpec.ofChange tableWatchesSpec)) tableWatchesCard

/-- THE TIED CARD OF 'dragomanlaw24.TableLoads'. -/
def tableLoadsCard : Claim7 := { stood := { row := tableLoadsRow, standIns := [], harness := (true, "0c42a873fa3c0e11c545c91d67cbd8c6c8876dc2ab2ca4bc620aef1b1820dc3c"), looks := true }, kinds := [], alts := [], laidByText := true, laidKinds := [.data, .data, .data], laidTests := true, laidLooks := .later }
def TableLoadsCardSaid : Prop := Claim7.holds Tryz.pinned (.plain (OpenSpec.ofChange tableLoadsSpec)) tableLoadsCard

/-- THE TIED CARD OF 'dragomanlaw24.TableOnce'. -/
def tableOnceCard : Claim7 := { stood := { row := tableOnceRow, standIns := [], harness := (true, "0c42a873fa3c0e11c545c91d67cbd8c6c8876dc2ab2ca4bc620aef1b1820dc3c"), looks := true }, kinds := [], alts := [], laidByText := true, laidKinds := [.data, .data, .data], laidTests := true, laidLooks := .later }
def TableOnceCardSaid : Prop := Claim7.holds Tryz.pinned (.plain (OpenSpec.ofChange tableOnceSpec)) tableOnceCard

/-- THE TIED CARD OF 'dragomanlaw24.TableRuns'. -/
def tableRunsCard : Claim7 := { stood := { row := tableRunsRow, standIns := [], harness := (true, "0c42a873fa3c0e11c545c91d67cbd8c6c8876dc2ab2ca4bc620aef1b1820dc3c"), looks := true }, kinds := [], alts := [], laidByText := true, laidKinds := [.data, .data, .data], laidTests := true, laidLooks := .later }
def TableRunsCardSaid : Prop := Claim7.holds Tryz.pinned (.plain (OpenSpec.ofChange tableRunsSpec)) tableRunsCard

/-- THE SECOND FORM's CARD OF 'dragomanlaw24.TableKnown'. -/
def tableKnownUptoCard : Claim7 := { stood := { row := tableKnownUptoRow, standIns := [], harness := (true, "0c42a873fa3c0e11c545c91d67cbd8c6c8876dc2ab2ca4bc620aef1b1820dc3c"), looks := true }, kinds := [], alts := [], laidByText := true, laidKinds := [.data, .data, .data], laidTests := true, laidLooks := .later }
def TableKnownUptoCardSaid : Prop := Claim7.holds Tryz.pinned (.plain (OpenSpec.upto tableKnownSpec)) tableKnownUptoCard

/-- THE SECOND FORM's CARD OF 'dragomanlaw24.TableCommands'. -/
def tableCommandsUptoCard : Claim7 := { stood := { row := tableCommandsUptoRow, standIns := [], harness := (true, "0c42a873fa3c0e11c545c91d67cbd8c6c8876dc2ab2ca4bc620aef1b1820dc3c"), looks := true }, kinds := [], alts := [], laidByText := true, laidKinds := [.data, .data, .data], laidTests := true, laidLooks := .later }
def TableCommandsUptoCardSaid : Prop := Claim7.holds Tryz.pinned (.plain (OpenSpec.upto tableCommandsSpec)) tableCommandsUptoCard

/-- THE SECOND FORM's CARD OF 'dragomanlaw24.TablePlays'. -/
def tablePlaysUptoCard : Claim7 := { stood := { row := tablePlaysUptoRow, standIns := [], harness := (true, "0c42a873fa3c0e11c545c91d67cbd8c6c8876dc2ab2ca4bc620aef1b1820dc3c"), looks := true }, kinds := [], alts := [], laidByText := true, laidKinds := [.data, .data, .data], laidTests := true, laidLooks := .later }
def TablePlaysUptoCardSaid : Prop := Claim7.holds Tryz.pinned (.plain (OpenSpec.upto tablePlaysSpec)) tablePlaysUptoCard

/-- THE SECOND FORM's CARD OF 'dragomanlaw24.TableWatches'. -/
def tableWatchesUptoCard : Claim7 := { stood := { row := tableWatchesUptoRow, standIns := [], harness := (true, "0c42a873fa3c0e11c545c91d67cbd8c6c8876dc2ab2ca4bc620aef1b1820dc3c"), looks := true }, kinds := [], alts := [], laidByText := true, laidKinds := [.data, .data, .data], laidTests := true, laidLooks := .later }
def TableWatchesUptoCardSaid : Prop := Claim7.holds Tryz.pinned (.plain (OpenSpec.upto tableWatchesSpec)) tableWatchesUptoCard

/-- THE SECOND FORM's CARD OF 'dragomanlaw24.TableLoads'. -/
def tableLoadsUptoCard : Claim7 := { stood := { row := tableLoadsUptoRow, standIns := [], harness := (true, "0c42a873fa3c0e11c545c91d67cbd8c6c8876dc2ab2ca4bc620aef1b1820dc3c"), looks := true }, kinds := [], alts := [], laidByText := true, laidKinds := [.data, .data, .data], laidTests := true, laidLooks := .later }
def TableLoadsUptoCardSaid : Prop := Claim7.holds Tryz.pinned (.plain (OpenSpec.upto tableLoadsSpec)) tableLoadsUptoCard

/-- THE SECOND FORM's CARD OF 'dragomanlaw24.TableOnce'. -/
def tableOnceUptoCard : Claim7 := { stood := { row := tableOnceUptoRow, standIns := [], harness := (true, "0c42a873fa3c0e11c545c91d67cbd8c6c8876dc2ab2ca4bc620aef1b1820dc3c"), looks := true }, kinds := [], alts := [], laidByText := true, laidKinds := [.data, .data, .data], laidTests := true, laidLooks := .later }
def TableOnceUptoCardSaid : Prop := Claim7.holds Tryz.pinned (.plain (OpenSpec.upto tableOnceSpec)) tableOnceUptoCard

/-- THE SECOND FORM's CARD OF 'dragomanlaw24.TableRuns'. -/
def tableRunsUptoCard : Claim7 := { stood := { row := tableRunsUptoRow, standIns := [], harness := (true, "0c42a873fa3c0e11c545c91d67cbd8c6c8876dc2ab2ca4bc620aef1b1820dc3c"), looks := true }, kinds := [], alts := [], laidByText := true, laidKinds := [.data, .data, .data], laidTests := true, laidLooks := .later }
def TableRunsUptoCardSaid : Prop := Claim7.holds Tryz.pinned (.plain (OpenSpec.upto tableRunsSpec)) tableRunsUptoCard
end Rows
end Go.Proofs.YtkenbhdaiofboaaGreatDoor
