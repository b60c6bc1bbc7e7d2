/- The examples of the document (closed). ParseLimits returns true. Conditions: 3 tables of the library hold what its text lays them to (tied). -/
import Derived.Test.YtiakepglcemfiaaGreatDoorFrame
import Derived.Test.YtiakepglcemfiaaGreatDoorParseLimitsAny
import Derived.Test.YtiakepglcemfiaaGreatDoorFrameL
import Derived.Test.YtiakepglcemfiaaGreatDoorCards
import Derived.Test.YtiakepglcemfiaaGreatDoorTie
namespace Go.Proofs.YtiakepglcemfiaaGreatDoor
open Go.ChangeShapes Go.WideShapes Go.ChangeAt Go.RowKit
open Go.ChangeMaps (open_string shut_string)

set_option maxRecDepth 100000 in
theorem parseLimitsR_met (os : Os) : laidMet Tryz.prog Rows.parseLimitsRow.laid ((heldWorld os [(2, litCells Rows.laid_math_bits_deBruijn32tab), (3, litCells Rows.laid_math_bits_deBruijn64tab), (1, litCells Rows.laid_internal_strconv_uint64pow10)]).forCall (fun _ _ => 0) ⟨#[], #[], []⟩).memory :=
  laidMet_of_run' 8 (by kernel_rfl) (by kernel_rfl)
set_option maxRecDepth 100000 in
theorem parseLimitsR_lifted (os : Os) (started : os.Started) (H : Type) (enc : TypeId × Value → H) :
    ReturnsInHanded {} Tryz.checked os 9 .any (fun w args => (Rows.parseLimitsSpec.pre enc Tryz.prog Tryz.f9 [] false w args ∧ laidMet Tryz.prog Rows.parseLimitsRow.laid w) ∧ sizedMet enc Tryz.prog Tryz.f9 (OpenSpec.ofChange Rows.parseLimitsSpec) false w args) (Rows.parseLimitsSpec.post enc Tryz.prog Tryz.f9 false true false false) := by
  refine lifted_laid Rows.parseLimitsRow.laid Tryz.func9 (by kernel_rfl) rfl rfl (by kernel_rfl) ?_ rfl os started
    (ChangeSpec.witness_at (enc := enc) (C := Tryz.checked) (os := os) (X := fun w _ => laidMet Tryz.prog Rows.parseLimitsRow.laid w) false (heldWorld os [(2, litCells Rows.laid_math_bits_deBruijn32tab), (3, litCells Rows.laid_math_bits_deBruijn64tab), (1, litCells Rows.laid_internal_strconv_uint64pow10)]) #[] 8 rfl (by kernel_rfl) (by kernel_rfl) (by kernel_rfl) (by kernel_rfl) (by kernel_rfl) (parseLimitsR_met os)) ?_
  · intro args ds W p hA
    rw [Tryz.params9] at hA
    obtain ⟨_, rfl, _⟩ := trodAll_nil hA
    exact ⟨rfl, rfl, rfl⟩
  · intro W args ds p hL hval hA hlt hsz
    rw [Tryz.params9] at hA hval hsz
    obtain ⟨hargs, rfl, rfl⟩ := trodAll_nil hA
    obtain rfl : args = #[] := by cases args; simp_all
    exact parseLimits_any W (parseLimits_tabs hL)

theorem parseLimitsR_over : Rows.parseLimitsRow.holds Tryz.pinned (OpenSpec.ofChange Rows.parseLimitsSpec) :=
  OpenClaim.holds_of_wide 9 Tryz.f9 rfl rfl rfl rfl rfl rfl rfl ⟨rfl, rfl, rfl, rfl, rfl⟩ rfl rfl rfl rfl rfl (by kernel_rfl) Tryz.func9 (by kernel_rfl)
    (of_decide_eq_true (by kernel_rfl)) (by unfold Func.isWrapper; first | (rw [if_pos (by decide +kernel)]; kernel_rfl) | (rw [if_neg (by decide +kernel)]; exact ⟨rfl, rfl⟩))
    (fun os started H enc _ => parseLimitsR_lifted os started H enc)

theorem parseLimits_proved : Rows.ParseLimitsCardSaid :=
  Claim7.holds_tied_plain_at .later [] [.data, .data, .data] true (true, "cecd76dd58965673b94c8df5f64cdb742cbbaabe05aead1fa86ac4c8ba5b599f") true parseLimitsR_over (fun _ h => by cases h) (by kernel_rfl) (fun _ h => by cases h) parseLimits_row_tie rfl ⟨rfl, rfl⟩ (by kernel_rfl) rfl
    (fun f fn hf hfn => by
      obtain rfl : f = 9 := Option.some.inj ((show Tryz.prog.funcNamed "dragoman/dragomanlaw13.ParseLimits" = some 9 by kernel_rfl).symm.trans hf) |>.symm
      obtain rfl : fn = Tryz.f9 := (Option.some.inj (Tryz.func9.symm.trans hfn)).symm
      exact ⟨by kernel_rfl, no_standins (by kernel_rfl)⟩)
    (by kernel_rfl)
#print axioms parseLimits_proved
end Go.Proofs.YtiakepglcemfiaaGreatDoor
