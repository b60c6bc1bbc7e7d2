/- The examples of the document (closed). DriverKnown returns true. Conditions: 3 tables of the library hold what its text lays them to (tied). -/
import Derived.Test.YtahklkefjlhieaaGreatDoorFrame
import Derived.Test.YtahklkefjlhieaaGreatDoorDriverKnownFd
import Derived.Test.YtahklkefjlhieaaGreatDoorDriverKnownFe
import Derived.Test.YtahklkefjlhieaaGreatDoorDriverKnownFf
import Derived.Test.YtahklkefjlhieaaGreatDoorDriverKnownFg
import Derived.Test.YtahklkefjlhieaaGreatDoorDriverKnownAny
import Derived.Test.YtahklkefjlhieaaGreatDoorFrameL
import Derived.Test.YtahklkefjlhieaaGreatDoorCards
import Derived.Test.YtahklkefjlhieaaGreatDoorTie
namespace Go.Proofs.YtahklkefjlhieaaGreatDoor
open Go.ChangeShapes Go.WideShapes Go.ChangeAt Go.RowKit
open Go.ChangeMaps (open_string shut_string)

set_option maxRecDepth 100000 in
theorem driverKnownR_met (os : Os) : laidMet Tryz.prog Rows.driverKnownRow.laid ((heldWorld os [(3, litCells Rows.laid_math_bits_deBruijn32tab), (0, litCells Rows.laid_math_bits_deBruijn64tab), (2, litCells Rows.laid_internal_strconv_uint64pow10)]).forCall (fun _ _ => 0) ⟨#[], #[], []⟩).memory :=
  laidMet_of_run' 8 (by kernel_rfl) (by kernel_rfl)
set_option maxRecDepth 100000 in
theorem driverKnownR_lifted (os : Os) (started : os.Started) (H : Type) (enc : TypeId × Value → H) :
    ReturnsInHanded {} Tryz.checked os 3 .any (fun w args => (Rows.driverKnownSpec.pre enc Tryz.prog Tryz.f3 [] false w args ∧ laidMet Tryz.prog Rows.driverKnownRow.laid w) ∧ sizedMet enc Tryz.prog Tryz.f3 (OpenSpec.ofChange Rows.driverKnownSpec) false w args) (Rows.driverKnownSpec.post enc Tryz.prog Tryz.f3 false true false false) := by
  refine lifted_laid Rows.driverKnownRow.laid Tryz.func3 (by kernel_rfl) rfl rfl (by kernel_rfl) ?_ rfl os started
    (ChangeSpec.witness_at (enc := enc) (C := Tryz.checked) (os := os) (X := fun w _ => laidMet Tryz.prog Rows.driverKnownRow.laid w) false (heldWorld os [(3, litCells Rows.laid_math_bits_deBruijn32tab), (0, litCells Rows.laid_math_bits_deBruijn64tab), (2, litCells Rows.laid_internal_strconv_uint64pow10)]) #[] 8 rfl (by kernel_rfl) (by kernel_rfl) (by kernel_rfl) (by kernel_rfl) (by kernel_rfl) (driverKnownR_met os)) ?_
  · intro args ds W p hA
    rw [Tryz.params3] at hA
    obtain ⟨_, rfl, _⟩ := trodAll_nil hA
    exact ⟨rfl, rfl, rfl⟩
  · intro W args ds p hL hval hA hlt hsz
    rw [Tryz.params3] at hA hval hsz
    obtain ⟨hargs, rfl, rfl⟩ := trodAll_nil hA
    obtain rfl : args = #[] := by cases args; simp_all
    exact driverKnown_any W (driverKnown_tabs hL)

theorem driverKnown_named : Tryz.prog.funcNamed "dragoman/dragomanlaw25.DriverKnown" = some 3 := by kernel_rfl
theorem driverKnownR_over : Rows.driverKnownRow.holds Tryz.pinned (OpenSpec.ofChange Rows.driverKnownSpec) :=
  OpenClaim.holds_of_wide 3 Tryz.f3 rfl rfl rfl rfl rfl rfl rfl ⟨rfl, rfl, rfl, rfl, rfl⟩ rfl rfl rfl rfl rfl driverKnown_named Tryz.func3 driverKnown_closed
    (of_decide_eq_true (by kernel_rfl)) (by unfold Func.isWrapper; first | (rw [if_pos (by decide +kernel)]; kernel_rfl) | (rw [if_neg (by decide +kernel)]; exact ⟨rfl, rfl⟩))
    (fun os started H enc _ => driverKnownR_lifted os started H enc)

theorem driverKnown_proved : Rows.DriverKnownCardSaid :=
  Claim7.holds_tied_plain_at .later [] [.data, .data, .data] true (true, "49676f279f1653cf02f870cf26a2110ad66ffda4cf278fda1fd82d4e83c0529f") true driverKnownR_over (fun _ h => by cases h) driverKnown_kw (fun _ h => by cases h) driverKnown_row_tie rfl ⟨rfl, rfl⟩ driverKnown_km rfl
    (fun f fn hf hfn => by
      obtain rfl : f = 3 := Option.some.inj (driverKnown_named.symm.trans hf) |>.symm
      obtain rfl : fn = Tryz.f3 := (Option.some.inj (Tryz.func3.symm.trans hfn)).symm
      exact ⟨driverKnown_kl, no_standins (by kernel_rfl)⟩)
    driverKnown_kg
#print axioms driverKnown_proved
end Go.Proofs.YtahklkefjlhieaaGreatDoor
