/- The limits, at them and one past them (closed). RunLimits returns true. Conditions: 3 tables of the library hold what its text lays them to (tied). -/
import Derived.Test.YtmpanfaenphbjaaGreatDoorFrame
import Derived.Test.YtmpanfaenphbjaaGreatDoorRunLimitsAny
import Derived.Test.YtmpanfaenphbjaaGreatDoorFrameL
import Derived.Test.YtmpanfaenphbjaaGreatDoorCards
import Derived.Test.YtmpanfaenphbjaaGreatDoorTie
namespace Go.Proofs.YtmpanfaenphbjaaGreatDoor
open Go.ChangeShapes Go.WideShapes Go.ChangeAt Go.RowKit
open Go.ChangeMaps (open_string shut_string)

set_option maxRecDepth 100000 in
theorem runLimitsR_met (os : Os) : laidMet Tryz.prog Rows.runLimitsRow.laid ((heldWorld os [(3, litCells Rows.laid_math_bits_deBruijn32tab), (0, litCells Rows.laid_math_bits_deBruijn64tab), (2, litCells Rows.laid_internal_strconv_uint64pow10)]).forCall (fun _ _ => 0) ⟨#[], #[], []⟩).memory :=
  laidMet_of_run' 8 (by kernel_rfl) (by kernel_rfl)
set_option maxRecDepth 100000 in
theorem runLimitsR_lifted (os : Os) (started : os.Started) (H : Type) (enc : TypeId × Value → H) :
    ReturnsInHanded {} Tryz.checked os 9 .any (fun w args => (Rows.runLimitsSpec.pre enc Tryz.prog Tryz.f9 [] false w args ∧ laidMet Tryz.prog Rows.runLimitsRow.laid w) ∧ sizedMet enc Tryz.prog Tryz.f9 (OpenSpec.ofChange Rows.runLimitsSpec) false w args) (Rows.runLimitsSpec.post enc Tryz.prog Tryz.f9 false true false false) := by
  refine lifted_laid Rows.runLimitsRow.laid Tryz.func9 (by kernel_rfl) rfl rfl (by kernel_rfl) ?_ rfl os started
    (ChangeSpec.witness_at (enc := enc) (C := Tryz.checked) (os := os) (X := fun w _ => laidMet Tryz.prog Rows.runLimitsRow.laid w) false (heldWorld os [(3, litCells Rows.laid_math_bits_deBruijn32tab), (0, litCells Rows.laid_math_bits_deBruijn64tab), (2, litCells Rows.laid_internal_strconv_uint64pow10)]) #[] 8 rfl (by kernel_rfl) (by kernel_rfl) (by kernel_rfl) (by kernel_rfl) (by kernel_rfl) (runLimitsR_met os)) ?_
  · intro args ds W p hA
    rw [Tryz.params9] at hA
    obtain ⟨_, rfl, _⟩ := trodAll_nil hA
    exact ⟨rfl, rfl, rfl⟩
  · intro W args ds p hL hval hA hlt hsz
    rw [Tryz.params9] at hA hval hsz
    obtain ⟨hargs, rfl, rfl⟩ := trodAll_nil hA
    obtain rfl : args = #[] := by cases args; simp_all
    exact runLimits_any W (runLimits_tabs hL)

theorem runLimitsR_over : Rows.runLimitsRow.holds Tryz.pinned (OpenSpec.ofChange Rows.runLimitsSpec) :=
  OpenClaim.holds_of_wide 9 Tryz.f9 rfl rfl rfl rfl rfl rfl rfl ⟨rfl, rfl, rfl, rfl, rfl⟩ rfl rfl rfl rfl rfl (by kernel_rfl) Tryz.func9 (by kernel_rfl)
    (of_decide_eq_true (by kernel_rfl)) (by unfold Func.isWrapper; first | (rw [if_pos (by decide +kernel)]; kernel_rfl) | (rw [if_neg (by decide +kernel)]; exact ⟨rfl, rfl⟩))
    (fun os started H enc _ => runLimitsR_lifted os started H enc)

theorem runLimits_proved : Rows.RunLimitsCardSaid :=
  Claim7.holds_tied_plain_at .later [] [.data, .data, .data] true (true, "daeeb0817038acb1a1b1031789a8c20f820bf6de1109d6986c79648f868b9332") true runLimitsR_over (fun _ h => by cases h) (by kernel_rfl) (fun _ h => by cases h) runLimits_row_tie rfl ⟨rfl, rfl⟩ (by kernel_rfl) rfl
    (fun f fn hf hfn => by
      obtain rfl : f = 9 := Option.some.inj ((show Tryz.prog.funcNamed "dragoman/dragomanlaw16.RunLimits" = some 9 by kernel_rfl).symm.trans hf) |>.symm
      obtain rfl : fn = Tryz.f9 := (Option.some.inj (Tryz.func9.symm.trans hfn)).symm
      exact ⟨by kernel_rfl, no_standins (by kernel_rfl)⟩)
    (by kernel_rfl)
#print axioms runLimits_proved
end Go.Proofs.YtmpanfaenphbjaaGreatDoor
