/-
  DERIVED. GIVEN WITH THE SEED: THE CARDS: each row of YtiapnfgmddhbgaaGreatDoorRows.lean that lists a variable, with what it lists TIED to the program's text (the seventh form; the later family's looks); each row that meets fmt, with fmt's text TOLD by the authors' own Lean function (tested against real Go, not proved from fmt's source: count such statements apart). THE CARD IS WHAT COUNTS. Prove the row's statement (the work); the ties are given (YtiapnfgmddhbgaaGreatDoorTie.lean); close each card by the builder's one call (the guide's Derived/Test/ToyasCard.lean, 'card_holds'). Laid BY PROGRAM, IN A SANDBOX (cutbox-door.mjs). By AI agents, Wed Nov 11 2026. No macro, syntax, notation, axiom, sorry.
-/
import Derived.Test.YtiapnfgmddhbgaaGreatDoorRows
import GoSem.ClaimSeven
namespace Go.Proofs.YtiapnfgmddhbgaaGreatDoor
namespace Rows

/-- THE TIED CARD OF 'dragomanlaw15.CompileTexts'. -/
def compileTextsCard : Claim7 := { stood := { row := compileTextsRow, standIns := [], harness := (true, "9116e9baeeaf1393412cc10481b48963973969e3aceaca1155a94768182976bb"), looks := true }, kinds := [], alts := [], laidByText := true, laidKinds := [.data, .data, .data], laidTests := true, laidLooks := .later }
def CompileTextsCardSaid : Prop := Claim7.holds Tryz.pinned (.plain (OpenSpec.ofChange compileTextsSpec)) compileTextsCard

/-- THE TIED CARD OF 'dragomanlaw15.CompileRights'. -/
def compileRightsCard : Claim7 := { stood := { row := compileRightsRow, standIns := [], harness := (true, "9116e9baeeaf1393412cc10481b48963973969e3aceaca1155a94768182976bb"), looks := true }, kinds := [], alts := [], laidByText := true, laidKinds := [.data, .data, .data], laidTests := true, laidLooks := .later }
def CompileRightsCardSaid : Prop := Claim7.holds Tryz.pinned (.plain (OpenSpec.ofChange compileRightsSpec)) compileRightsCard

/-- THE TIED CARD OF 'dragomanlaw15.CompilePrints'. -/
def compilePrintsCard : Claim7 := { stood := { row := compilePrintsRow, standIns := [], harness := (true, "9116e9baeeaf1393412cc10481b48963973969e3aceaca1155a94768182976bb"), looks := true }, kinds := [], alts := [], laidByText := true, laidKinds := [.data, .data, .data], laidTests := true, laidLooks := .later }
def CompilePrintsCardSaid : Prop := Claim7.holds Tryz.pinned (.plain (OpenSpec.ofChange compilePrintsSpec)) compilePrintsCard

/-- THE TIED CARD OF 'dragomanlaw15.CompileBack'. -/
def compileBackCard : Claim7 := { stood := { row := compileBackRow, standIns := [], harness := (true, "9116e9baeeaf1393412cc10481b48963973969e3aceaca1155a94768182976bb"), looks := true }, kinds := [], alts := [], laidByText := true, laidKinds := [.data, .data, .data], laidTests := true, laidLooks := .later }
def CompileBackCardSaid : Prop := Claim7.holds Tryz.pinned (.plain (OpenSpec.ofChange compileBackSpec)) compileBackCard

/-- THE TIED CARD OF 'dragomanlaw15.CompileNames'. -/
def compileNamesCard : Claim7 := { stood := { row := compileNamesRow, standIns := [], harness := (true, "9116e9baeeaf1393412cc10481b48963973969e3aceaca1155a94768182976bb"), looks := true }, kinds := [], alts := [], laidByText := true, laidKinds := [.data, .data, .data], laidTests := true, laidLooks := .later }
def CompileNamesCardSaid : Prop := Claim7.holds Tryz.pinned (.plain (OpenSpec.ofChange compileNamesSpec)) compileNamesCard

/-- THE TIED CARD OF 'dragomanlaw15.CompileLines'. -/
def compileLinesCard : Claim7 := { stood := { row := compileLinesRow, standIns := [], harness := (true, "9116e9baeeaf1393412cc10481b48963973969e3aceaca1155a94768182976bb"), looks := true }, kinds := [], alts := [], laidByText := true, laidKinds := [.data, .data, .data], laidTests := true, laidLooks := .later }
def CompileLinesCardSaid : Prop := Claim7.holds Tryz.pinned (.plain (OpenSpec.ofChange compileLinesSpec)) compileLinesCard

/-- THE TIED CARD OF 'dragomanlaw15.CompileLimits'. -/
def compileLimitsCard : Claim7 := { stood := { row := compileLimitsRow, standIns := [], harness := (true, "9116e9baeeaf1393412cc10481b48963973969e3aceaca1155a94768182976bb"), looks := true }, kinds := [], alts := [], laidByText := true, laidKinds := [.data, .data, .data], laidTests := true, laidLooks := .later }
def CompileLimitsCardSaid : Prop := Claim7.holds Tryz.pinned (.plain (OpenSpec.ofChange compileLimitsSpec)) compileLimitsCard

/-- THE SECOND FORM's CARD OF 'dragomanlaw15.CompileTexts'. -/
def compileTextsUptoCard : Claim7 := { stood := { row := compileTextsUptoRow, standIns := [], harness := (true, "9116e9baeeaf1393412cc10481b48963973969e3aceaca1155a94768182976bb"), looks := true }, kinds := [], alts := [], laidByText := true, laidKinds := [.data, .data, .data], laidTests := true, laidLooks := .later }
def CompileTextsUptoCardSaid : Prop := Claim7.holds Tryz.pinned (.plain (OpenSpec.upto compileTextsSpec)) compileTextsUptoCard

/-- THE SECOND FORM's CARD OF 'dragomanlaw15.CompileRights'. -/
def compileRightsUptoCard : Claim7 := { stood := { row := compileRightsUptoRow, standIns := [], harness := (true, "9116e9baeeaf1393412cc10481b48963973969e3aceaca1155a94768182976bb"), looks := true }, kinds := [], alts := [], laidByText := true, laidKinds := [.data, .data, .data], laidTests := true, laidLooks := .later }
def CompileRightsUptoCardSaid : Prop := Claim7.holds Tryz.pinned (.plain (OpenSpec.upto compileRightsSpec)) compileRightsUptoCard

/-- THE SECOND FORM's CARD OF 'dragomanlaw15.CompilePrints'. -/
def compilePrintsUptoCard : Claim7 := { stood := { row := compilePrintsUptoRow, standIns := [], harness := (true, "9116e9baeeaf1393412cc10481b48963973969e3aceaca1155a94768182976bb"), looks := true }, kinds := [], alts := [], laidByText := true, laidKinds := [.data, .data, .data], laidTests := true, laidLooks := .later }
def CompilePrintsUptoCardSaid : Prop := Claim7.holds Tryz.pinned (.plain (OpenSpec.upto compilePrintsSpec)) compilePrintsUptoCard

/-- THE SECOND FORM's CARD OF 'dragomanlaw15.CompileBack'. -/
def compileBackUptoCard : Claim7 := { stood := { row := compileBackUptoRow, standIns := [], harness := (true, "9116e9baeeaf1393412cc10481b48963973969e3aceaca1155a94768182976bb"), looks := true }, kinds := [], alts := [], laidByText := true, laidKinds := [.data, .data, .data], laidTests := true, laidLooks := .later }
def CompileBackUptoCardSaid : Prop := Claim7.holds Tryz.pinned (.plain (OpenSpec.upto compileBackSpec)) compileBackUptoCard

/-- THE SECOND FORM's CARD OF 'dragomanlaw15.CompileNames'. -/
def compileNamesUptoCard : Claim7 := { stood := { row := compileNamesUptoRow, standIns := [], harness := (true, "9116e9baeeaf1393412cc10481b48963973969e3aceaca1155a94768182976bb"), looks := true }, kinds := [], alts := [], laidByText := true, laidKinds := [.data, .data, .data], laidTests := true, laidLooks := .later }
def CompileNamesUptoCardSaid : Prop := Claim7.holds Tryz.pinned (.plain (OpenSpec.upto compileNamesSpec)) compileNamesUptoCard

/-- THE SECOND FORM's CARD OF 'dragomanlaw15.CompileLines'. -/
def compileLinesUptoCard : Claim7 := { stood := { row := compileLinesUptoRow, standIns := [], harness := (true, "9116e9baeeaf1393412cc10481b48963973969e3aceaca1155a94768182976bb"), looks := true }, kinds := [], alts := [], laidByText := true, laidKinds := [.data, .data, .data], laidTests := true, laidLooks := .later }
def CompileLinesUptoCardSaid : Prop := Claim7.holds Tryz.pinned (.plain (OpenSpec.upto compileLinesSpec)) compileLinesUptoCard

/-- THE SECOND FORM's CARD OF 'dragomanlaw15.CompileLimits'. -/
def compileLimitsUptoCard : Claim7 := { stood := { row := compileLimitsUptoRow, standIns := [], harness := (true, "9116e9baeeaf1393412cc10481b48963973969e3aceaca1155a94768182976bb"), looks := true }, kinds := [], alts := [], laidByText := true, laidKinds := [.data, .data, .data], laidTests := true, laidLooks := .later }
def CompileLimitsUptoCardSaid : Prop := Claim7.holds Tryz.pinned (.plain (OpenSpec.upto compileLimitsSpec)) compileLimitsUptoCard
end Rows
end Go.Proofs.YtiapnfgmddhbgaaGreatDoor
