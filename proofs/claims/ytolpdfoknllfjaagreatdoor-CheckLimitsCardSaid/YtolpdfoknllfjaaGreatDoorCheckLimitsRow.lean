/- The limits, at them and one past them, and the errors' numbers are what the document says: CheckLimits returns true. Conditions: three tables of the library hold what its text lays them to (tied). -/
import Derived.Test.YtolpdfoknllfjaaGreatDoorFrame
import Derived.Test.YtolpdfoknllfjaaGreatDoorCheckLimitsAny
import Derived.Test.YtolpdfoknllfjaaGreatDoorFrameL
import Derived.Test.YtolpdfoknllfjaaGreatDoorCards
import Derived.Test.YtolpdfoknllfjaaGreatDoorTie
namespace Go.Proofs.YtolpdfoknllfjaaGreatDoor
open Go.ChangeShapes Go.WideShapes Go.ChangeAt Go.RowKit
open Go.ChangeMaps (open_string shut_string)

set_option maxRecDepth 100000 in
theorem checkLimitsR_met (os : Os) : laidMet Tryz.prog Rows.checkLimitsRow.laid ((heldWorld os [(2, litCells Rows.laid_math_bits_deBruijn32tab), (3, litCells Rows.laid_math_bits_deBruijn64tab), (1, litCells Rows.laid_internal_strconv_uint64pow10)]).forCall (fun _ _ => 0) ⟨#[], #[], []⟩).memory :=
  laidMet_of_run' 8 (by kernel_rfl) (by kernel_rfl)
set_option maxRecDepth 100000 in
theorem checkLimitsR_lifted (os : Os) (started : os.Started) (H : Type) (enc : TypeId × Value → H) :
    ReturnsInHanded {} Tryz.checked os 9 .any (fun w args => (Rows.checkLimitsSpec.pre enc Tryz.prog Tryz.f9 [] false w args ∧ laidMet Tryz.prog Rows.checkLimitsRow.laid w) ∧ sizedMet enc Tryz.prog Tryz.f9 (OpenSpec.ofChange Rows.checkLimitsSpec) false w args) (Rows.checkLimitsSpec.post enc Tryz.prog Tryz.f9 false true false false) := by
  refine lifted_laid Rows.checkLimitsRow.laid Tryz.func9 (by kernel_rfl) rfl rfl (by kernel_rfl) ?_ rfl os started
    (ChangeSpec.witness_at (enc := enc) (C := Tryz.checked) (os := os) (X := fun w _ => laidMet Tryz.prog Rows.checkLimitsRow.laid w) false (heldWorld os [(2, litCells Rows.laid_math_bits_deBruijn32tab), (3, litCells Rows.laid_math_bits_deBruijn64tab), (1, litCells Rows.laid_internal_strconv_uint64pow10)]) #[] 8 rfl (by kernel_rfl) (by kernel_rfl) (by kernel_rfl) (by kernel_rfl) (by kernel_rfl) (checkLimitsR_met os)) ?_
  · intro args ds W p hA
    rw [Tryz.params9] at hA
    obtain ⟨_, rfl, _⟩ := trodAll_nil hA
    exact ⟨rfl, rfl, rfl⟩
  · intro W args ds p hL hval hA hlt hsz
    rw [Tryz.params9] at hA hval hsz
    obtain ⟨hargs, rfl, rfl⟩ := trodAll_nil hA
    obtain rfl : args = #[] := by cases args; simp_all
    exact checkLimits_any W

theorem checkLimitsR_over : Rows.checkLimitsRow.holds Tryz.pinned (OpenSpec.ofChange Rows.checkLimitsSpec) :=
  OpenClaim.holds_of_wide 9 Tryz.f9 rfl rfl rfl rfl rfl rfl rfl ⟨rfl, rfl, rfl, rfl, rfl⟩ rfl rfl rfl rfl rfl (by kernel_rfl) Tryz.func9 (by kernel_rfl)
    (of_decide_eq_true (by kernel_rfl)) (by unfold Func.isWrapper; first | (rw [if_pos (by decide +kernel)]; kernel_rfl) | (rw [if_neg (by decide +kernel)]; exact ⟨rfl, rfl⟩))
    (fun os started H enc _ => checkLimitsR_lifted os started H enc)

theorem checkLimits_proved : Rows.CheckLimitsCardSaid :=
  Claim7.holds_tied_plain_at .later [] [.data, .data, .data] true (true, "0bb25ac74f62d0fc9f94dfd90a92063a3c7e6d4174d439a353c90443d8f221ff") true checkLimitsR_over (fun _ h => by cases h) (by kernel_rfl) (fun _ h => by cases h) checkLimits_row_tie rfl ⟨rfl, rfl⟩ (by kernel_rfl) rfl
    (fun f fn hf hfn => by
      obtain rfl : f = 9 := Option.some.inj ((show Tryz.prog.funcNamed "dragoman/dragomanlaw14.CheckLimits" = some 9 by kernel_rfl).symm.trans hf) |>.symm
      obtain rfl : fn = Tryz.f9 := (Option.some.inj (Tryz.func9.symm.trans hfn)).symm
      exact ⟨by kernel_rfl, no_standins (by kernel_rfl)⟩)
    (by kernel_rfl)
#print axioms checkLimits_proved
end Go.Proofs.YtolpdfoknllfjaaGreatDoor
