/- The names and numbers of the document's kinds and faults are what it says: PatternNames returns true. Conditions: none (there are no inputs). -/
import Derived.Test.YtpahnnajcicejaaFrame
import Derived.Test.YtpahnnajcicejaaAbs19
namespace Go.Proofs.Ytpahnnajcicejaa
open Go.ChangeShapes Go.WideShapes Go.ChangeAt Go.RowKit
open Go.ChangeMaps (open_string shut_string)

set_option maxRecDepth 100000 in
theorem patternNames_run : Abs.saysTrue (Abs.callA Try.prog (fun _ => none) 1000 30 12 [] ⟨0, [57], .e⟩) = true := by kernel_rfl
theorem patternNames_any (W : World) : Calls Try.prog 12 #[] W fun e W' => e = .returned (.bool true) ∧ Below W.heap.size W W' :=
  Abs.says_true (by kernel_rfl) Abs.noSpec_ok patternNames_run W

set_option maxRecDepth 100000 in
theorem patternNamesR_lifted (os : Os) (started : os.Started) (H : Type) (enc : TypeId × Value → H) :
    ReturnsInHanded {} Try.checked os 12 .any (Rows.patternNamesSpec.pre6 enc Try.prog Try.f12 [] false) (Rows.patternNamesSpec.post enc Try.prog Try.f12 false true false false) := by
  refine lifted_of Try.func12 (by kernel_rfl) rfl rfl (by kernel_rfl) ?_ rfl os started
    (ChangeSpec.witness6 (enc := enc) (C := Try.checked) false ⟨#[], #[], []⟩ 8 (by kernel_rfl) (by kernel_rfl) (by kernel_rfl) (by kernel_rfl)) ?_
  · intro args ds W p hA
    rw [Try.params12] at hA
    obtain ⟨_, rfl, _⟩ := trodAll_nil hA
    exact ⟨rfl, rfl, rfl⟩
  · intro W args ds p hval hA hlt hsz
    rw [Try.params12] at hA hval hsz
    obtain ⟨hargs, rfl, rfl⟩ := trodAll_nil hA
    obtain rfl : args = #[] := by cases args; simp_all
    exact patternNames_any W

theorem patternNamesR_over : Rows.patternNamesRow.holds Try.pinned (OpenSpec.ofChange Rows.patternNamesSpec) :=
  OpenClaim.holds_of_wide 12 Try.f12 rfl rfl rfl rfl rfl rfl rfl ⟨rfl, rfl, rfl, rfl, rfl⟩ rfl rfl rfl rfl rfl (by kernel_rfl) Try.func12 (by kernel_rfl)
    (of_decide_eq_true (by kernel_rfl)) (by unfold Func.isWrapper; first | (rw [if_pos (by decide +kernel)]; kernel_rfl) | (rw [if_neg (by decide +kernel)]; exact ⟨rfl, rfl⟩))
    (fun os started H enc _ => patternNamesR_lifted os started H enc)

theorem patternNames_proved : Rows.PatternNamesSaid := patternNamesR_over
#print axioms patternNames_proved
end Go.Proofs.Ytpahnnajcicejaa
