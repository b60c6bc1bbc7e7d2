/-
  DERIVED. GIVEN WITH THE SEED: THE CARDS: each row of YtahklkefjlhieaaGreatDoorRows.lean that lists a variable, with what it lists TIED to the program's text (the seventh form; the later family's looks); each row that meets fmt, with fmt's text TOLD by the authors' own Lean function (tested against real Go, not proved from fmt's source: count such statements apart). THE CARD IS WHAT COUNTS. Prove the row's statement (the work); the ties are given (YtahklkefjlhieaaGreatDoorTie.lean); close each card by the builder's one call (the guide's Derived/Test/ToyasCard.lean, 'card_holds'). Laid BY PROGRAM, IN A SANDBOX (cutbox-door.mjs). By AI agents, Wed Nov 11 2026. No macro, syntax, notation, axiom, sorry.
-/
import Derived.Test.YtahklkefjlhieaaGreatDoorRows
import GoSem.ClaimSeven
namespace Go.Proofs.YtahklkefjlhieaaGreatDoor
namespace Rows

/-- THE TIED CARD OF 'dragomanlaw25.DriverKnown'. -/
def driverKnownCard : Claim7 := { stood := { row := driverKnownRow, standIns := [], harness := (true, "49676f279f1653cf02f870cf26a2110ad66ffda4cf278fda1fd82d4e83c0529f"), looks := true }, kinds := [], alts := [], laidByText := true, laidKinds := [.data, .data, .data], laidTests := true, laidLooks := .later }
def DriverKnownCardSaid : Prop := Claim7.holds Tryz.pinned (.plain (OpenSpec.ofChange driverKnownSpec)) driverKnownCard

/-- THE TIED CARD OF 'dragomanlaw25.DriverPlays'. -/
def driverPlaysCard : Claim7 := { stood := { row := driverPlaysRow, standIns := [], harness := (true, "49676f279f1653cf02f870cf26a2110ad66ffda4cf278fda1fd82d4e83c0529f"), looks := true }, kinds := [], alts := [], laidByText := true, laidKinds := [.data, .data, .data], laidTests := true, laidLooks := .later }
def DriverPlaysCardSaid : Prop := Claim7.holds Tryz.pinned (.plain (OpenSpec.ofChange driverPlaysSpec)) driverPlaysCard

/-- THE TIED CARD OF 'dragomanlaw25.DriverMeans'. -/
def driverMeansCard : Claim7 := { stood := { row := driverMeansRow, standIns := [], harness := (true, "49676f279f1653cf02f870cf26a2110ad66ffda4cf278fda1fd82d4e83c0529f"), looks := true }, kinds := [], alts := [], laidByText := true, laidKinds := [.data, .data, .data], laidTests := true, laidLooks := .later }
def DriverMeansCardSaid : Prop := Claim7.holds Tryz.pinned (.plain (OpenSpec.ofChange driverMeansSpec)) driverMeansCard

/-- THE TIED CARD OF 'dragomanlaw25.DriverEnds'. -/
def driverEndsCard : Claim7 := { stood := { row := driverEndsRow, standIns := [], harness := (true, "49676f279f1653cf02f870cf26a2110ad66ffda4cf278fda1fd82d4e83c0529f"), looks := true }, kinds := [], alts := [], laidByText := true, laidKinds := [.data, .data, .data], laidTests := true, laidLooks := .later }
def DriverEndsCardSaid : Prop := Claim7.holds Tryz.pinned (.plain (OpenSpec.ofChange driverEndsSpec)) driverEndsCard

/-- THE SECOND FORM's CARD OF 'dragomanlaw25.DriverKnown'. -/
def driverKnownUptoCard : Claim7 := { stood := { row := driverKnownUptoRow, standIns := [], harness := (true, "49676f279f1653cf02f870cf26a2110ad66ffda4cf278fda1fd82d4e83c0529f"), looks := true }, kinds := [], alts := [], laidByText := true, laidKinds := [.data, .data, .data], laidTests := true, laidLooks := .later }
def DriverKnownUptoCardSaid : Prop := Claim7.holds Tryz.pinned (.plain (OpenSpec.upto driverKnownSpec)) driverKnownUptoCard

/-- THE SECOND FORM's CARD OF 'dragomanlaw25.DriverPlays'. -/
def driverPlaysUptoCard : Claim7 := { stood := { row := driverPlaysUptoRow, standIns := [], harness := (true, "49676f279f1653cf02f870cf26a2110ad66ffda4cf278fda1fd82d4e83c0529f"), looks := true }, kinds := [], alts := [], laidByText := true, laidKinds := [.data, .data, .data], laidTests := true, laidLooks := .later }
def DriverPlaysUptoCardSaid : Prop := Claim7.holds Tryz.pinned (.plain (OpenSpec.upto driverPlaysSpec)) driverPlaysUptoCard

/-- THE SECOND FORM's CARD OF 'dragomanlaw25.DriverMeans'. -/
def driverMeansUptoCard : Claim7 := { stood := { row := driverMeansUptoRow, standIns := [], harness := (true, "49676f279f1653cf02f870cf26a2110ad66ffda4cf278fda1fd82d4e83c0529f"), looks := true }, kinds := [], alts := [], laidByText := true, laidKinds := [.data, .data, .data], laidTests := true, laidLooks := .later }
def DriverMeansUptoCardSaid : Prop := Claim7.holds Tryz.pinned (.plain (OpenSpec.upto driverMeansSpec)) driverMeansUptoCard

/-- THE SECOND FORM's CARD OF 'dragomanlaw25.DriverEnds'. -/
def driverEndsUptoCard : Claim7 := { stood := { row := driverEndsUptoRow, standIns := [], harness := (true, "49676f279f1653cf02f870cf26a2110ad66ffda4cf278fda1fd82d4e83c0529f"), looks := true }, kinds := [], alts := [], laidByText := true, laidKinds := [.data, .data, .data], laidTests := true, laidLooks := .later }
def DriverEndsUptoCardSaid : Prop := Claim7.holds Tryz.pinned (.plain (OpenSpec.upto driverEndsSpec)) driverEndsUptoCard
end Rows
end Go.Proofs.YtahklkefjlhieaaGreatDoor
