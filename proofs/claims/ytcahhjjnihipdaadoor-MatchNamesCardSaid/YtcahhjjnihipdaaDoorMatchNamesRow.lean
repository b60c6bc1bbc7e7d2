/- The examples of the document (closed). MatchNames returns true. Conditions: 1 tables of the library hold what its text lays them to (tied). -/
import Derived.Test.YtcahhjjnihipdaaDoorFrame
import Derived.Test.YtcahhjjnihipdaaDoorMatchNamesAny
import Derived.Test.YtcahhjjnihipdaaDoorFrameL
import Derived.Test.YtcahhjjnihipdaaDoorCards
import Derived.Test.YtcahhjjnihipdaaDoorTie
namespace Go.Proofs.YtcahhjjnihipdaaDoor
open Go.ChangeShapes Go.WideShapes Go.ChangeAt Go.RowKit
open Go.ChangeMaps (open_string shut_string)

set_option maxRecDepth 100000 in
theorem matchNamesR_met (os : Os) : laidMet Tryd.prog Rows.matchNamesRow.laid ((heldWorld os [(0, litCells Rows.laid_math_bits_deBruijn64tab)]).forCall (fun _ _ => 0) ⟨#[], #[], []⟩).memory :=
  laidMet_of_run' 8 (by kernel_rfl) (by kernel_rfl)
set_option maxRecDepth 100000 in
theorem matchNamesR_lifted (os : Os) (started : os.Started) (H : Type) (enc : TypeId × Value → H) :
    ReturnsInHanded {} Tryd.checked os 11 .any (fun w args => (Rows.matchNamesSpec.pre enc Tryd.prog Tryd.f11 [] false w args ∧ laidMet Tryd.prog Rows.matchNamesRow.laid w) ∧ sizedMet enc Tryd.prog Tryd.f11 (OpenSpec.ofChange Rows.matchNamesSpec) false w args) (Rows.matchNamesSpec.post enc Tryd.prog Tryd.f11 false true false false) := by
  refine lifted_laid Rows.matchNamesRow.laid Tryd.func11 (by kernel_rfl) rfl rfl (by kernel_rfl) ?_ rfl os started
    (ChangeSpec.witness_at (enc := enc) (C := Tryd.checked) (os := os) (X := fun w _ => laidMet Tryd.prog Rows.matchNamesRow.laid w) false (heldWorld os [(0, litCells Rows.laid_math_bits_deBruijn64tab)]) #[] 8 rfl (by kernel_rfl) (by kernel_rfl) (by kernel_rfl) (by kernel_rfl) (by kernel_rfl) (matchNamesR_met os)) ?_
  · intro args ds W p hA
    rw [Tryd.params11] at hA
    obtain ⟨_, rfl, _⟩ := trodAll_nil hA
    exact ⟨rfl, rfl, rfl⟩
  · intro W args ds p hL hval hA hlt hsz
    rw [Tryd.params11] at hA hval hsz
    obtain ⟨hargs, rfl, rfl⟩ := trodAll_nil hA
    obtain rfl : args = #[] := by cases args; simp_all
    exact matchNames_any W (matchNames_tabs hL)

theorem matchNamesR_over : Rows.matchNamesRow.holds Tryd.pinned (OpenSpec.ofChange Rows.matchNamesSpec) :=
  OpenClaim.holds_of_wide 11 Tryd.f11 rfl rfl rfl rfl rfl rfl rfl ⟨rfl, rfl, rfl, rfl, rfl⟩ rfl rfl rfl rfl rfl (by kernel_rfl) Tryd.func11 (by kernel_rfl)
    (of_decide_eq_true (by kernel_rfl)) (by unfold Func.isWrapper; first | (rw [if_pos (by decide +kernel)]; kernel_rfl) | (rw [if_neg (by decide +kernel)]; exact ⟨rfl, rfl⟩))
    (fun os started H enc _ => matchNamesR_lifted os started H enc)

theorem matchNames_proved : Rows.MatchNamesCardSaid :=
  Claim7.holds_tied_plain_at .later [] [.data] true (true, "6c9282fce0ce059766f879dfcf664683de3cf80c682fb784a1156b75e50fd8e1") true matchNamesR_over (fun _ h => by cases h) (by kernel_rfl) (fun _ h => by cases h) matchNames_row_tie rfl ⟨rfl, rfl⟩ (by kernel_rfl) rfl
    (fun f fn hf hfn => by
      obtain rfl : f = 11 := Option.some.inj ((show Tryd.prog.funcNamed "dragoman/dragomanlaw11.MatchNames" = some 11 by kernel_rfl).symm.trans hf) |>.symm
      obtain rfl : fn = Tryd.f11 := (Option.some.inj (Tryd.func11.symm.trans hfn)).symm
      exact ⟨by kernel_rfl, no_standins (by kernel_rfl)⟩)
    (by kernel_rfl)
#print axioms matchNames_proved
end Go.Proofs.YtcahhjjnihipdaaDoor
