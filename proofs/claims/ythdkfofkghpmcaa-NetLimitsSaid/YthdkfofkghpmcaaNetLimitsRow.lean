/- The examples of the document (closed). NetLimits returns true. Conditions: none (there are no inputs). -/
import Derived.Test.YthdkfofkghpmcaaFrame
import Derived.Test.YthdkfofkghpmcaaNetLimitsAny
namespace Go.Proofs.Ythdkfofkghpmcaa
open Go.ChangeShapes Go.WideShapes Go.ChangeAt Go.RowKit
open Go.ChangeMaps (open_string shut_string)

set_option maxRecDepth 100000 in
theorem netLimitsR_lifted (os : Os) (started : os.Started) (H : Type) (enc : TypeId × Value → H) :
    ReturnsInHanded {} Try.checked os 8 .any (Rows.netLimitsSpec.pre6 enc Try.prog Try.f8 [] false) (Rows.netLimitsSpec.post enc Try.prog Try.f8 false true false false) := by
  refine lifted_of Try.func8 (by kernel_rfl) rfl rfl (by kernel_rfl) ?_ rfl os started
    (ChangeSpec.witness6 (enc := enc) (C := Try.checked) false ⟨#[], #[], []⟩ 8 (by kernel_rfl) (by kernel_rfl) (by kernel_rfl) (by kernel_rfl)) ?_
  · intro args ds W p hA
    rw [Try.params8] at hA
    obtain ⟨_, rfl, _⟩ := trodAll_nil hA
    exact ⟨rfl, rfl, rfl⟩
  · intro W args ds p hval hA hlt hsz
    rw [Try.params8] at hA hval hsz
    obtain ⟨hargs, rfl, rfl⟩ := trodAll_nil hA
    obtain rfl : args = #[] := by cases args; simp_all
    exact netLimits_any W (netLimits_tabs W)

theorem netLimitsR_over : Rows.netLimitsRow.holds Try.pinned (OpenSpec.ofChange Rows.netLimitsSpec) :=
  OpenClaim.holds_of_wide 8 Try.f8 rfl rfl rfl rfl rfl rfl rfl ⟨rfl, rfl, rfl, rfl, rfl⟩ rfl rfl rfl rfl rfl (by kernel_rfl) Try.func8 (by kernel_rfl)
    (of_decide_eq_true (by kernel_rfl)) (by unfold Func.isWrapper; first | (rw [if_pos (by decide +kernel)]; kernel_rfl) | (rw [if_neg (by decide +kernel)]; exact ⟨rfl, rfl⟩))
    (fun os started H enc _ => netLimitsR_lifted os started H enc)

theorem netLimits_proved : Rows.NetLimitsSaid := netLimitsR_over
#print axioms netLimits_proved
end Go.Proofs.Ythdkfofkghpmcaa
