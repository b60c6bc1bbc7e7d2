/-
  DERIVED. GIVEN WITH THE SEED: THE CARDS: each row of YtpdepoeanhibiaaDoorRows.lean that lists a variable, with what it lists TIED to the program's text (the seventh form; the later family's looks); each row that meets fmt, with fmt's text TOLD by the authors' own Lean function (tested against real Go, not proved from fmt's source: count such statements apart). THE CARD IS WHAT COUNTS. Prove the row's statement (the work); the ties are given (YtpdepoeanhibiaaDoorTie.lean); close each card by the builder's one call (the guide's Derived/Test/ToyasCard.lean, 'card_holds'). Laid BY PROGRAM, IN A SANDBOX (cutbox-door.mjs). By AI agents, Wed Nov 11 2026. No macro, syntax, notation, axiom, sorry.
-/
import Derived.Test.YtpdepoeanhibiaaDoorRows
import GoSem.ClaimSeven
namespace Go.Proofs.YtpdepoeanhibiaaDoor
namespace Rows

/-- THE TIED CARD OF 'dragomanlaw11.MatchCopies'. -/
def matchCopiesCard : Claim7 := { stood := { row := matchCopiesRow, standIns := [], harness := (true, "1714cfc5815abc90d5c1c10e2a944261f7d00bdd31da8ff39b49a4714cfe2491"), looks := true }, kinds := [], alts := [], laidByText := true, laidKinds := [.data], laidTests := true, laidLooks := .later }
def MatchCopiesCardSaid : Prop := Claim7.holds Tryd.pinned (.plain (OpenSpec.ofChange matchCopiesSpec)) matchCopiesCard

/-- THE SECOND FORM's CARD OF 'dragomanlaw11.MatchCopies'. -/
def matchCopiesUptoCard : Claim7 := { stood := { row := matchCopiesUptoRow, standIns := [], harness := (true, "1714cfc5815abc90d5c1c10e2a944261f7d00bdd31da8ff39b49a4714cfe2491"), looks := true }, kinds := [], alts := [], laidByText := true, laidKinds := [.data], laidTests := true, laidLooks := .later }
def MatchCopiesUptoCardSaid : Prop := Claim7.holds Tryd.pinned (.plain (OpenSpec.upto matchCopiesSpec)) matchCopiesUptoCard
end Rows
end Go.Proofs.YtpdepoeanhibiaaDoor
