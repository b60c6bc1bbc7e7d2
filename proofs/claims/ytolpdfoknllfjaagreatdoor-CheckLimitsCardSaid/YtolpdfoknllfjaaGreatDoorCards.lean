/-
  DERIVED. GIVEN WITH THE SEED: THE CARDS: each row of YtolpdfoknllfjaaGreatDoorRows.lean that lists a variable, with what it lists TIED to the program's text (the seventh form; the later family's looks); each row that meets fmt, with fmt's text TOLD by the authors' own Lean function (tested against real Go, not proved from fmt's source: count such statements apart). THE CARD IS WHAT COUNTS. Prove the row's statement (the work); the ties are given (YtolpdfoknllfjaaGreatDoorTie.lean); close each card by the builder's one call (the guide's Derived/Test/ToyasCard.lean, 'card_holds'). Laid BY PROGRAM, IN A SANDBOX (cutbox-door.mjs). By AI agents, Wed Nov 11 2026. No macro, syntax, notation, axiom, sorry.
-/
import Derived.Test.YtolpdfoknllfjaaGreatDoorRows
import GoSem.ClaimSeven
namespace Go.Proofs.YtolpdfoknllfjaaGreatDoor
namespace Rows

/-- THE TIED CARD OF 'dragomanlaw14.CheckFaults'. -/
def checkFaultsCard : Claim7 := { stood := { row := checkFaultsRow, standIns := [], harness := (true, "0bb25ac74f62d0fc9f94dfd90a92063a3c7e6d4174d439a353c90443d8f221ff"), looks := true }, kinds := [], alts := [], laidByText := true, laidKinds := [.data, .data, .data], laidTests := true, laidLooks := .later }
def CheckFaultsCardSaid : Prop := Claim7.holds Tryz.pinned (.plain (OpenSpec.ofChange checkFaultsSpec)) checkFaultsCard

/-- THE TIED CARD OF 'dragomanlaw14.CheckCounters'. -/
def checkCountersCard : Claim7 := { stood := { row := checkCountersRow, standIns := [], harness := (true, "0bb25ac74f62d0fc9f94dfd90a92063a3c7e6d4174d439a353c90443d8f221ff"), looks := true }, kinds := [], alts := [], laidByText := true, laidKinds := [.data, .data, .data], laidTests := true, laidLooks := .later }
def CheckCountersCardSaid : Prop := Claim7.holds Tryz.pinned (.plain (OpenSpec.ofChange checkCountersSpec)) checkCountersCard

/-- THE TIED CARD OF 'dragomanlaw14.CheckRounds'. -/
def checkRoundsCard : Claim7 := { stood := { row := checkRoundsRow, standIns := [], harness := (true, "0bb25ac74f62d0fc9f94dfd90a92063a3c7e6d4174d439a353c90443d8f221ff"), looks := true }, kinds := [], alts := [], laidByText := true, laidKinds := [.data, .data, .data], laidTests := true, laidLooks := .later }
def CheckRoundsCardSaid : Prop := Claim7.holds Tryz.pinned (.plain (OpenSpec.ofChange checkRoundsSpec)) checkRoundsCard

/-- THE TIED CARD OF 'dragomanlaw14.CheckEnds'. -/
def checkEndsCard : Claim7 := { stood := { row := checkEndsRow, standIns := [], harness := (true, "0bb25ac74f62d0fc9f94dfd90a92063a3c7e6d4174d439a353c90443d8f221ff"), looks := true }, kinds := [], alts := [], laidByText := true, laidKinds := [.data, .data, .data], laidTests := true, laidLooks := .later }
def CheckEndsCardSaid : Prop := Claim7.holds Tryz.pinned (.plain (OpenSpec.ofChange checkEndsSpec)) checkEndsCard

/-- THE TIED CARD OF 'dragomanlaw14.CheckTurns'. -/
def checkTurnsCard : Claim7 := { stood := { row := checkTurnsRow, standIns := [], harness := (true, "0bb25ac74f62d0fc9f94dfd90a92063a3c7e6d4174d439a353c90443d8f221ff"), looks := true }, kinds := [], alts := [], laidByText := true, laidKinds := [.data, .data, .data], laidTests := true, laidLooks := .later }
def CheckTurnsCardSaid : Prop := Claim7.holds Tryz.pinned (.plain (OpenSpec.ofChange checkTurnsSpec)) checkTurnsCard

/-- THE TIED CARD OF 'dragomanlaw14.CheckMore'. -/
def checkMoreCard : Claim7 := { stood := { row := checkMoreRow, standIns := [], harness := (true, "0bb25ac74f62d0fc9f94dfd90a92063a3c7e6d4174d439a353c90443d8f221ff"), looks := true }, kinds := [], alts := [], laidByText := true, laidKinds := [.data, .data, .data], laidTests := true, laidLooks := .later }
def CheckMoreCardSaid : Prop := Claim7.holds Tryz.pinned (.plain (OpenSpec.ofChange checkMoreSpec)) checkMoreCard

/-- THE TIED CARD OF 'dragomanlaw14.CheckLimits'. -/
def checkLimitsCard : Claim7 := { stood := { row := checkLimitsRow, standIns := [], harness := (true, "0bb25ac74f62d0fc9f94dfd90a92063a3c7e6d4174d439a353c90443d8f221ff"), looks := true }, kinds := [], alts := [], laidByText := true, laidKinds := [.data, .data, .data], laidTests := true, laidLooks := .later }
def CheckLimitsCardSaid : Prop := Claim7.holds Tryz.pinned (.plain (OpenSpec.ofChange checkLimitsSpec)) checkLimitsCard

/-- THE SECOND FORM's CARD OF 'dragomanlaw14.CheckFaults'. -/
def checkFaultsUptoCard : Claim7 := { stood := { row := checkFaultsUptoRow, standIns := [], harness := (true, "0bb25ac74f62d0fc9f94dfd90a92063a3c7e6d4174d439a353c90443d8f221ff"), looks := true }, kinds := [], alts := [], laidByText := true, laidKinds := [.data, .data, .data], laidTests := true, laidLooks := .later }
def CheckFaultsUptoCardSaid : Prop := Claim7.holds Tryz.pinned (.plain (OpenSpec.upto checkFaultsSpec)) checkFaultsUptoCard

/-- THE SECOND FORM's CARD OF 'dragomanlaw14.CheckCounters'. -/
def checkCountersUptoCard : Claim7 := { stood := { row := checkCountersUptoRow, standIns := [], harness := (true, "0bb25ac74f62d0fc9f94dfd90a92063a3c7e6d4174d439a353c90443d8f221ff"), looks := true }, kinds := [], alts := [], laidByText := true, laidKinds := [.data, .data, .data], laidTests := true, laidLooks := .later }
def CheckCountersUptoCardSaid : Prop := Claim7.holds Tryz.pinned (.plain (OpenSpec.upto checkCountersSpec)) checkCountersUptoCard

/-- THE SECOND FORM's CARD OF 'dragomanlaw14.CheckRounds'. -/
def checkRoundsUptoCard : Claim7 := { stood := { row := checkRoundsUptoRow, standIns := [], harness := (true, "0bb25ac74f62d0fc9f94dfd90a92063a3c7e6d4174d439a353c90443d8f221ff"), looks := true }, kinds := [], alts := [], laidByText := true, laidKinds := [.data, .data, .data], laidTests := true, laidLooks := .later }
def CheckRoundsUptoCardSaid : Prop := Claim7.holds Tryz.pinned (.plain (OpenSpec.upto checkRoundsSpec)) checkRoundsUptoCard

/-- THE SECOND FORM's CARD OF 'dragomanlaw14.CheckEnds'. -/
def checkEndsUptoCard : Claim7 := { stood := { row := checkEndsUptoRow, standIns := [], harness := (true, "0bb25ac74f62d0fc9f94dfd90a92063a3c7e6d4174d439a353c90443d8f221ff"), looks := true }, kinds := [], alts := [], laidByText := true, laidKinds := [.data, .data, .data], laidTests := true, laidLooks := .later }
def CheckEndsUptoCardSaid : Prop := Claim7.holds Tryz.pinned (.plain (OpenSpec.upto checkEndsSpec)) checkEndsUptoCard

/-- THE SECOND FORM's CARD OF 'dragomanlaw14.CheckTurns'. -/
def checkTurnsUptoCard : Claim7 := { stood := { row := checkTurnsUptoRow, standIns := [], harness := (true, "0bb25ac74f62d0fc9f94dfd90a92063a3c7e6d4174d439a353c90443d8f221ff"), looks := true }, kinds := [], alts := [], laidByText := true, laidKinds := [.data, .data, .data], laidTests := true, laidLooks := .later }
def CheckTurnsUptoCardSaid : Prop := Claim7.holds Tryz.pinned (.plain (OpenSpec.upto checkTurnsSpec)) checkTurnsUptoCard

/-- THE SECOND FORM's CARD OF 'dragomanlaw14.CheckMore'. -/
def checkMoreUptoCard : Claim7 := { stood := { row := checkMoreUptoRow, standIns := [], harness := (true, "0bb25ac74f62d0fc9f94dfd90a92063a3c7e6d4174d439a353c90443d8f221ff"), looks := true }, kinds := [], alts := [], laidByText := true, laidKinds := [.data, .data, .data], laidTests := true, laidLooks := .later }
def CheckMoreUptoCardSaid : Prop := Claim7.holds Tryz.pinned (.plain (OpenSpec.upto checkMoreSpec)) checkMoreUptoCard

/-- THE SECOND FORM's CARD OF 'dragomanlaw14.CheckLimits'. -/
def checkLimitsUptoCard : Claim7 := { stood := { row := checkLimitsUptoRow, standIns := [], harness := (true, "0bb25ac74f62d0fc9f94dfd90a92063a3c7e6d4174d439a353c90443d8f221ff"), looks := true }, kinds := [], alts := [], laidByText := true, laidKinds := [.data, .data, .data], laidTests := true, laidLooks := .later }
def CheckLimitsUptoCardSaid : Prop := Claim7.holds Tryz.pinned (.plain (OpenSpec.upto checkLimitsSpec)) checkLimitsUptoCard
end Rows
end Go.Proofs.YtolpdfoknllfjaaGreatDoor
